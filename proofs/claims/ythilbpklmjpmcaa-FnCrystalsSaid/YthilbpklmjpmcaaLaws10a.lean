/- The laws on kinds and liquors whose answers are numbers, walked. Made by tools/mk_law10.py. -/
import Derived.Test.YthilbpklmjpmcaaLiqG
import Derived.Test.YthilbpklmjpmcaaRegn3
namespace Go.Proofs.Ythilbpklmjpmcaa.Laws10a
open Go.RowKit Go.Proofs.Ythilbpklmjpmcaa.Mem Go.Proofs.Ythilbpklmjpmcaa.Base Go.Proofs.Ythilbpklmjpmcaa.SInt Go.Proofs.Ythilbpklmjpmcaa.Regn Go.Proofs.Ythilbpklmjpmcaa.Boxes Go.Proofs.Ythilbpklmjpmcaa.Keep Go.Proofs.Ythilbpklmjpmcaa.Nest Go.Proofs.Ythilbpklmjpmcaa.KindP Go.Proofs.Ythilbpklmjpmcaa.KindG Go.Proofs.Ythilbpklmjpmcaa.LiqW Go.Proofs.Ythilbpklmjpmcaa.LiqP Go.Proofs.Ythilbpklmjpmcaa.LiqG
set_option linter.unusedVariables false
set_option linter.unusedSimpArgs false
set_option maxRecDepth 100000
/-- What each walk of a law ends in. -/
def Yes (w : World) (e : Ending) (w' : World) : Prop := e = .returned (.bool true) ∧ Below w.heap.size w w'
set_option maxHeartbeats 1000000 in
theorem are_law (P : Option Addr) (cap : Nat) (l : List SKind.R) (w : World) (hr : Rd w w.heap.size P (SKind.flat l)) (hn : l.length ≤ maxLen) (hwf : ∀ x ∈ l, x.wf) :
    Calls Try.prog 5 #[.slice P l.length cap] w (Yes w) := by
  have hz : ∀ x ∈ l, x.f0.size ≤ maxLen := fun x hx => (hwf x hx).1
  clear hwf
  obtain ⟨q, hv⟩ : ∃ q, Value.bool (goodK l) = .bool q := ⟨_, rfl⟩
  have HV := Lib.hid hv; clear hv
  have HN := Lib.hid hn
  clear hn
  go_enter Try.func5, Try.ntmps5
  go_wp2_with fail
  refine (SKind.szS_any P cap l 1048576 w hr (by omega) (by omega) HN.out hz).mono ?_
  rintro e v1 ⟨r, rfl, hrs, HB⟩
  rcases hrs with rfl | ⟨hr0, hr1⟩
  · go_wp2
    go_ret
    exact ⟨rfl, HB⟩
  have hl : l.length ≤ 1048576 := by omega
  clear hr1
  go_wp2_with fail
  refine (SKind.toS_any P cap l _ (rd_keep hr HB) hl).mono ?_
  rintro e v2 ⟨rfl, ho1, hv2⟩
  replace HB := be HB hv2
  have zhv2 := hv2.size
  go_wp2_with fail
  refine (are_spec _ _ l _ (Rd.of_own ho1) hl hz).mono ?_
  rintro e v3 ⟨rfl, hv3⟩
  replace HB := be HB hv3
  have zhv3 := hv3.size
  rw [HV.out]
  clear ho1
  go_wp2_with fail
  refine (SKind.toS_any P cap l _ (rd_keep hr HB) hl).mono ?_
  rintro e v4 ⟨rfl, ho, hv4⟩
  replace HB := be HB hv4
  have zhv4 := hv4.size
  go_wp2_with fail
  refine (are_impl _ _ l _ (Rd.of_own ho) hl hz).mono ?_
  rintro e v5 ⟨rfl, hv5⟩
  replace HB := be HB hv5
  replace ho := own_keep ho hv5
  have zhv5 := hv5.size
  rw [HV.out]
  go_wp2_with fail
  refine (SKind.toS_any P cap l _ (rd_keep hr HB) hl).mono ?_
  rintro e v6 ⟨rfl, ho2, hv6⟩
  replace HB := be HB hv6
  replace ho := own_keep ho hv6
  have zhv6 := hv6.size
  go_wp2_with fail
  refine (SKind.eqS_any _ _ _ _ l l _ (Rd.of_own ho) (Rd.of_own ho2) HN.out HN.out).mono ?_
  rintro e v7 ⟨rfl, hv7⟩
  replace HB := be HB hv7
  replace ho := own_keep ho hv7
  have zhv7 := hv7.size
  rw [decide_eq_true rfl]
  go_wp2
  go_ret
  exact ⟨rfl, HB⟩
set_option maxHeartbeats 4000000 in
theorem liq_law (P : Option Addr) (cap : Nat) (l : List SKind.R) (wt : Int) (A : Option Addr) (s : List Int) (c : Nat) (w : World) (hr : Rd w w.heap.size P (SKind.flat l)) (hn : l.length ≤ maxLen) (hwf : ∀ x ∈ l, x.wf) (hs : Rd w w.heap.size A (iv s)) (hm : s.length ≤ maxLen) :
    Calls Try.prog 6 #[.slice P l.length cap, .agg #[.int .i64 wt, .slice A s.length c]] w (Yes w) := by
  have hz : ∀ x ∈ l, x.f0.size ≤ maxLen := fun x hx => (hwf x hx).1
  clear hwf
  obtain ⟨q, hv⟩ : ∃ q, Value.bool (liqB l wt s) = .bool q := ⟨_, rfl⟩
  have HV := Lib.hid hv; clear hv
  have HN := Lib.hid (And.intro hn hm)
  clear hn hm
  go_enter Try.func6, Try.ntmps6
  go_wp2_with fail
  have B := Box.new (Below.refl _ w) [.int .i64 wt, .slice A s.length c] 54 (g := w.heap.size) rfl
  generalize (w.alloc (.cells #[.int .i64 wt, .slice A s.length c] 54)) = W1 at B ⊢
  have B_0 := B.cells 0 _ rfl
  have B_1 := B.cells 1 _ rfl
  have B_f0 := B.free 0 (by simp)
  have B_f1 := B.free 1 (by simp)
  have B_t := B.there
  go_wp2_with fail
  refine (SKind.szS_any P cap l 1048576 _ (rd_keep hr B.below) (by omega) (by omega) HN.out.1 hz).mono ?_
  rintro e v2 ⟨r, rfl, hrs, hv2⟩
  clear B_0 B_1 B_f0 B_f1 B_t
  replace B := B.more hv2
  have zhv2 := hv2.size
  clear hv2
  have B_0 := B.cells 0 _ rfl
  have B_1 := B.cells 1 _ rfl
  have B_f0 := B.free 0 (by simp)
  have B_f1 := B.free 1 (by simp)
  have B_t := B.there
  rcases hrs with rfl | ⟨hr0, hr1⟩
  · go_wp2
    go_ret
    exact ⟨rfl, B.below⟩
  have hl : l.length ≤ 1048576 := by omega
  have hrt : r ≤ 1048576 := by omega
  have B_0 := B.cells 0 _ rfl
  have B_1 := B.cells 1 _ rfl
  have B_f0 := B.free 0 (by simp)
  have B_f1 := B.free 1 (by simp)
  have B_t := B.there
  go_wp2_with fail
  refine (szL_any ⟨wt, ⟨A, c, s⟩⟩ r _ hr0 hrt HN.out.2).mono ?_
  rintro e v3 ⟨rfl, hv3⟩
  clear B_0 B_1 B_f0 B_f1 B_t
  replace B := B.more hv3
  have zhv3 := hv3.size
  clear hv3
  have B_0 := B.cells 0 _ rfl
  have B_1 := B.cells 1 _ rfl
  have B_f0 := B.free 0 (by simp)
  have B_f1 := B.free 1 (by simp)
  have B_t := B.there
  rcases szV_range (n := s.length) hr0 hrt with ⟨hb, _⟩ | ⟨hb0, hb1, hb2⟩
  · rw [hb]
    go_wp2
    go_ret
    exact ⟨rfl, B.below⟩
  have hsl : s.length ≤ 1048576 := by omega
  obtain ⟨rr, hrr⟩ : ∃ v, szV r s.length = v := ⟨_, rfl⟩
  rw [hrr] at hb0 hb1 ⊢
  clear hrr hb1 hb2
  have HLEN := Lib.hid (And.intro hr1 hrt); clear hr1 hrt
  go_wp2
  clear B_0 B_1 B_f0 B_f1 B_t
  refine wp_region_rel [20, 21, 22, 23, 24, 6] (fun L f w' => (Box (w.heap.size) [.int .i64 wt, .slice A s.length c] w w') ∧ (L 0 → f 20 = .slice P l.length cap) ∧ (L 1 → ¬ L 4 → ∃ g, f 21 = .slice (some ⟨g, 0, none⟩) l.length l.length ∧ w'.ownsRow w.heap.size 37 3 (.slice (some ⟨g, 0, none⟩) l.length l.length) l.length (SKind.flat l)) ∧ (L 2 → f 22 = .agg #[.int .i64 wt, .slice A s.length c]) ∧ (L 3 → ¬ L 4 → ∃ g, f 23 = .agg #[.int .i64 wt, .slice (some ⟨g, 0, none⟩) s.length s.length] ∧ RowOwn w' w.heap.size ⟨some ⟨g, 0, none⟩, s.length, s⟩) ∧ (L 4 → f 24 = .bool q) ∧ (L 5 → f 6 = .bool q)) (by kernel_rfl) (by kernel_rfl) (by kernel_rfl) (fun f => ⟨B.drew, fun h => h.elim, fun h => h.elim, fun h => h.elim, fun h => h.elim, fun h => h.elim, fun h => h.elim⟩) ?_ ?_
  · apply RelH.op2
    · intro L f u K hN hS hK
      simp only [puts, Act.put, List.setIfInBounds_toArray, List.set_cons_zero, List.set_cons_succ, upd, Nat.reduceEqDiff, ↓reduceIte, if_true, if_false] at hK ⊢
      have HS9 := Lib.hid hS
      obtain ⟨qB, c0, c1, c2, c3, c4, c5⟩ := hS
      clear c0 c1 c2 c3 c4 c5
      go_simp
      obtain ⟨qB, c0, c1, c2, c3, c4, c5⟩ := HS9.out
      exact hK.out _ _ ⟨qB, fun _ => rfl, fun h t0 => c1 (h.resolve_right (by decide)) (fun z => t0 (.inl z)), fun h => c2 (h.resolve_right (by decide)), fun h t0 => c3 (h.resolve_right (by decide)) (fun z => t0 (.inl z)), fun h => c4 (h.resolve_right (by decide)), fun h => c5 (h.resolve_right (by decide))⟩ _ rfl
    apply RelH.op2
    · intro L f u K hN hS hK
      simp only [puts, Act.put, List.setIfInBounds_toArray, List.set_cons_zero, List.set_cons_succ, upd, Nat.reduceEqDiff, ↓reduceIte, if_true, if_false] at hK ⊢
      have HS9 := Lib.hid hS
      obtain ⟨qB, c0, c1, c2, c3, c4, c5⟩ := hS
      have e0 := c0 (hN.out.2 0 (by decide +kernel))
      have HCON := Lib.hid (SKind.toS_any P cap l u (rd_keep hr qB.below) hl)
      clear c0 c1 c2 c3 c4 c5
      go_simp
      go_at_call 43
      (with_reducible refine HCON.out.mono ?_)
      rintro e uw1 ⟨rfl, ho, hv⟩
      go_wp2_with fail
      obtain ⟨qB, c0, c1, c2, c3, c4, c5⟩ := HS9.out
      exact hK.out _ _ ⟨qB.more hv, fun h => c0 (h.resolve_right (by decide)), fun _ _ => ⟨_, rfl, own_base ho qB.below.size⟩, fun h => c2 (h.resolve_right (by decide)), fun h t0 => (let ⟨g, e, O⟩ := (c3 (h.resolve_right (by decide)) (fun z => t0 (.inl z))); ⟨g, e, O.keep hv⟩), fun h => c4 (h.resolve_right (by decide)), fun h => c5 (h.resolve_right (by decide))⟩ _ (by simp only [e0])
    apply RelH.op2
    · intro L f u K hN hS hK
      simp only [puts, Act.put, List.setIfInBounds_toArray, List.set_cons_zero, List.set_cons_succ, upd, Nat.reduceEqDiff, ↓reduceIte, if_true, if_false] at hK ⊢
      have HS9 := Lib.hid hS
      obtain ⟨qB, c0, c1, c2, c3, c4, c5⟩ := hS
      have qB_0 := qB.cells 0 _ rfl
      have qB_1 := qB.cells 1 _ rfl
      clear c0 c1 c2 c3 c4 c5
      go_simp
      obtain ⟨qB, c0, c1, c2, c3, c4, c5⟩ := HS9.out
      exact hK.out _ _ ⟨qB, fun h => c0 (h.resolve_right (by decide)), fun h t0 => c1 (h.resolve_right (by decide)) (fun z => t0 (.inl z)), fun _ => rfl, fun h t0 => c3 (h.resolve_right (by decide)) (fun z => t0 (.inl z)), fun h => c4 (h.resolve_right (by decide)), fun h => c5 (h.resolve_right (by decide))⟩ _ rfl
    apply RelH.op2
    · intro L f u K hN hS hK
      simp only [puts, Act.put, List.setIfInBounds_toArray, List.set_cons_zero, List.set_cons_succ, upd, Nat.reduceEqDiff, ↓reduceIte, if_true, if_false] at hK ⊢
      have HS9 := Lib.hid hS
      obtain ⟨qB, c0, c1, c2, c3, c4, c5⟩ := hS
      have e2 := c2 (hN.out.2 2 (by decide +kernel))
      have HCON := Lib.hid (to_at ⟨wt, ⟨A, c, s⟩⟩ u (rd_keep hs qB.below) hsl)
      clear c0 c1 c2 c3 c4 c5
      go_simp
      go_at_call 46
      (with_reducible refine HCON.out.mono ?_)
      rintro e uw1 ⟨rfl, ho, hv⟩
      go_wp2_with fail
      obtain ⟨qB, c0, c1, c2, c3, c4, c5⟩ := HS9.out
      exact hK.out _ _ ⟨qB.more hv, fun h => c0 (h.resolve_right (by decide)), fun h t0 => (let ⟨g, e, O⟩ := (c1 (h.resolve_right (by decide)) (fun z => t0 (.inl z))); ⟨g, e, own_keep O hv⟩), fun h => c2 (h.resolve_right (by decide)), fun _ _ => ⟨_, rfl, ho.base qB.below.size⟩, fun h => c4 (h.resolve_right (by decide)), fun h => c5 (h.resolve_right (by decide))⟩ _ (by simp only [e2])
    apply RelH.op2
    · intro L f u K hN hS hK
      simp only [puts, Act.put, List.setIfInBounds_toArray, List.set_cons_zero, List.set_cons_succ, upd, Nat.reduceEqDiff, ↓reduceIte, if_true, if_false] at hK ⊢
      have HS9 := Lib.hid hS
      obtain ⟨qB, c0, c1, c2, c3, c4, c5⟩ := hS
      obtain ⟨g, e1, O⟩ := c1 (hN.out.2 1 (by decide +kernel)) (hN.out.1 4 (by decide +kernel))
      obtain ⟨g2, e3, O2⟩ := c3 (hN.out.2 3 (by decide +kernel)) (hN.out.1 4 (by decide +kernel))
      have HCON := Lib.hid (isl_spec (some ⟨g, 0, none⟩) l.length l wt (some ⟨g2, 0, none⟩) s.length s u ⟨Rd.of_own O, hl, hz, O2.rd, hsl⟩)
      clear c0 c1 c2 c3 c4 c5
      go_simp
      go_at_call 21
      (with_reducible refine HCON.out.mono ?_)
      rintro e uw1 ⟨rfl, hv⟩
      rw [HV.out]
      go_wp2_with fail
      obtain ⟨qB, c0, c1, c2, c3, c4, c5⟩ := HS9.out
      exact hK.out _ _ ⟨qB.more hv, fun h => c0 (h.resolve_right (by decide)), fun h t0 => (t0 (by simp)).elim, fun h => c2 (h.resolve_right (by decide)), fun h t0 => (t0 (by simp)).elim, fun _ => rfl, fun h => c5 (h.resolve_right (by decide))⟩ _ (by simp only [e1, e3])
    apply RelH.op2
    · intro L f u K hN hS hK
      simp only [puts, Act.put, List.setIfInBounds_toArray, List.set_cons_zero, List.set_cons_succ, upd, Nat.reduceEqDiff, ↓reduceIte, if_true, if_false] at hK ⊢
      have HS9 := Lib.hid hS
      obtain ⟨qB, c0, c1, c2, c3, c4, c5⟩ := hS
      have e4 := c4 (hN.out.2 4 (by decide +kernel))
      clear c0 c1 c2 c3 c4 c5
      go_simp
      obtain ⟨qB, c0, c1, c2, c3, c4, c5⟩ := HS9.out
      exact hK.out _ _ ⟨qB, fun h => c0 (h.resolve_right (by decide)), fun h t0 => c1 (h.resolve_right (by decide)) (fun z => t0 (.inl z)), fun h => c2 (h.resolve_right (by decide)), fun h t0 => c3 (h.resolve_right (by decide)) (fun z => t0 (.inl z)), fun h => c4 (h.resolve_right (by decide)), fun _ => rfl⟩ _ (by simp only [e4])
    exact RelH.done
  intro L f V0 hL hS
  simp only [puts, Act.put, List.setIfInBounds_toArray, List.set_cons_zero, List.set_cons_succ]
  obtain ⟨qB, c0, c1, c2, c3, c4, c5⟩ := hS
  clear B
  have B := qB; clear qB
  have e0 := c0 (hL 0 (by decide))
  have e2 := c2 (hL 2 (by decide))
  have e4 := c4 (hL 4 (by decide))
  have e5 := c5 (hL 5 (by decide))
  simp only [e5]
  clear e0 e2 e4 e5 c0 c1 c2 c3 c4 c5 hL
  go_wp2_with fail
  refine (SKind.toS_any P cap l _ (rd_keep hr B.below) hl).mono ?_
  rintro e v4 ⟨rfl, OX, hv4⟩
  replace B := B.more hv4
  have zhv4 := hv4.size
  clear hv4
  have B_0 := B.cells 0 _ rfl
  have B_1 := B.cells 1 _ rfl
  have B_f0 := B.free 0 (by simp)
  have B_f1 := B.free 1 (by simp)
  have B_t := B.there
  go_wp2_with fail
  refine (to_at ⟨wt, ⟨A, c, s⟩⟩ _ (rd_keep hs B.below) hsl).mono ?_
  rintro e v5 ⟨rfl, ho, hv5⟩
  clear B_0 B_1 B_f0 B_f1 B_t
  replace B := B.more hv5
  replace OX := own_keep OX hv5
  have zhv5 := hv5.size
  clear hv5
  have B_0 := B.cells 0 _ rfl
  have B_1 := B.cells 1 _ rfl
  have B_f0 := B.free 0 (by simp)
  have B_f1 := B.free 1 (by simp)
  have B_t := B.there
  obtain ⟨zb, hzb⟩ : ∃ b, v4.heap.size + 3 = b := ⟨_, rfl⟩
  rw [hzb] at ho ⊢
  clear hzb
  go_wp2_with fail
  have HB0 := B.below
  have B_t6 := B.there
  have Y := Box.new B.below [.int .i64 wt, .slice (some ⟨zb, 0, none⟩) s.length s.length] 27 (g := v5.heap.size) rfl
  clear B_0 B_1 B_f0 B_f1 B_t
  replace B := (B).alloc (.cells #[.int .i64 wt, .slice (some ⟨zb, 0, none⟩) s.length s.length] 27)
  replace OX := own_keep OX (al (Below.refl _ _) (o := (.cells #[.int .i64 wt, .slice (some ⟨zb, 0, none⟩) s.length s.length] 27)))
  replace ho := RowOwn.keep ho (al (Below.refl _ _) (o := (.cells #[.int .i64 wt, .slice (some ⟨zb, 0, none⟩) s.length s.length] 27)))
  generalize (v5.alloc (.cells #[.int .i64 wt, .slice (some ⟨zb, 0, none⟩) s.length s.length] 27)) = W6 at Y B OX ho ⊢
  have B_0 := B.cells 0 _ rfl
  have B_1 := B.cells 1 _ rfl
  have B_f0 := B.free 0 (by simp)
  have B_f1 := B.free 1 (by simp)
  have B_t := B.there
  have Y_0 := Y.cells 0 _ rfl
  have Y_1 := Y.cells 1 _ rfl
  have Y_f0 := Y.free 0 (by simp)
  have Y_f1 := Y.free 1 (by simp)
  have Y_t := Y.there
  have Y_0 := Y.cells 0 _ rfl
  have Y_1 := Y.cells 1 _ rfl
  have Y_f0 := Y.free 0 (by simp)
  have Y_f1 := Y.free 1 (by simp)
  have Y_t := Y.there
  go_wp2_with fail
  refine (isl_impl _ _ l wt (some ⟨zb, 0, none⟩) s.length s _ ⟨Rd.of_own OX, hl, hz, ho.rd, hsl⟩).mono ?_
  rintro e v7 ⟨rfl, hv7⟩
  clear B_0 B_1 B_f0 B_f1 B_t
  clear Y_0 Y_1 Y_f0 Y_f1 Y_t
  replace B := B.more hv7
  replace Y := Y.more hv7
  replace OX := own_keep OX hv7
  replace ho := RowOwn.keep ho hv7
  have zhv7 := hv7.size
  clear hv7
  have B_0 := B.cells 0 _ rfl
  have B_1 := B.cells 1 _ rfl
  have B_f0 := B.free 0 (by simp)
  have B_f1 := B.free 1 (by simp)
  have B_t := B.there
  have Y_0 := Y.cells 0 _ rfl
  have Y_1 := Y.cells 1 _ rfl
  have Y_f0 := Y.free 0 (by simp)
  have Y_f1 := Y.free 1 (by simp)
  have Y_t := Y.there
  rw [HV.out]
  go_wp2_with fail
  refine (SKind.toS_any P cap l _ (rd_keep hr B.below) hl).mono ?_
  rintro e v8 ⟨rfl, ho2, hv8⟩
  clear B_0 B_1 B_f0 B_f1 B_t
  clear Y_0 Y_1 Y_f0 Y_f1 Y_t
  replace B := B.more hv8
  replace Y := Y.more hv8
  replace OX := own_keep OX hv8
  replace ho := RowOwn.keep ho hv8
  have zhv8 := hv8.size
  clear hv8
  have B_0 := B.cells 0 _ rfl
  have B_1 := B.cells 1 _ rfl
  have B_f0 := B.free 0 (by simp)
  have B_f1 := B.free 1 (by simp)
  have B_t := B.there
  have Y_0 := Y.cells 0 _ rfl
  have Y_1 := Y.cells 1 _ rfl
  have Y_f0 := Y.free 0 (by simp)
  have Y_f1 := Y.free 1 (by simp)
  have Y_t := Y.there
  go_wp2_with fail
  refine (SKind.eqS_any _ _ _ _ l l _ (Rd.of_own OX) (Rd.of_own ho2) HN.out.1 HN.out.1).mono ?_
  rintro e v9 ⟨rfl, hv9⟩
  clear B_0 B_1 B_f0 B_f1 B_t
  clear Y_0 Y_1 Y_f0 Y_f1 Y_t
  replace B := B.more hv9
  replace Y := Y.more hv9
  replace OX := own_keep OX hv9
  replace ho := RowOwn.keep ho hv9
  have zhv9 := hv9.size
  clear hv9
  have B_0 := B.cells 0 _ rfl
  have B_1 := B.cells 1 _ rfl
  have B_f0 := B.free 0 (by simp)
  have B_f1 := B.free 1 (by simp)
  have B_t := B.there
  have Y_0 := Y.cells 0 _ rfl
  have Y_1 := Y.cells 1 _ rfl
  have Y_f0 := Y.free 0 (by simp)
  have Y_f1 := Y.free 1 (by simp)
  have Y_t := Y.there
  rw [decide_eq_true rfl]
  clear ho2 HB0
  go_wp2_with fail
  have HE := Lib.hid (fun n0 : Nat => same_yes (x := ⟨wt, ⟨some ⟨zb, 0, none⟩, s.length, s⟩⟩) (y := ⟨wt, ⟨some ⟨n0 + 3, 0, none⟩, s.length, s⟩⟩) rfl rfl)
  have HLM := Lib.hid (show s.length ≤ maxLen by unfold maxLen; omega)
  clear B_0 B_1 B_f0 B_f1 B_t
  clear Y_0 Y_1 Y_f0 Y_f1 Y_t
  obtain ⟨n0, hn0⟩ : ∃ n, n = v9.heap.size := ⟨_, rfl⟩
  refine wp_region_seq (fun L w' => Box (w.heap.size) [.int .i64 wt, .slice A s.length c] w w' ∧ Box (v5.heap.size) [.int .i64 wt, .slice (some ⟨zb, 0, none⟩) s.length s.length] w w' ∧
    RowOwn w' v4.heap.size ⟨some ⟨zb, 0, none⟩, s.length, s⟩ ∧ (¬ L 2 → w'.heap.size = n0) ∧ (L 2 → RowOwn w' n0 ⟨some ⟨n0 + 3, 0, none⟩, s.length, s⟩)) (by kernel_rfl) (by kernel_rfl) ⟨B.drew, Y.drew, ho.keep (Below.refl _ _).drew, fun _ => hn0.symm, fun h => h.elim⟩ ?_
  replace hn0 := Lib.hid hn0
  iterate 5 (
    apply SeqH.op
    · intro L uw K hN hS hK
      obtain ⟨qX, qY, qR, qz, qo⟩ := hS
      have qX_0 := qX.cells 0 _ rfl; have qX_1 := qX.cells 1 _ rfl
      have qY_0 := qY.cells 0 _ rfl; have qY_1 := qY.cells 1 _ rfl
      first
        | (go_simp; exact hK.out _ ⟨qX, qY, qR, fun a => qz (fun h => a (.inl h)), fun h => qo (h.resolve_right (by decide))⟩)
        | (have e0 := qz (hN.out.1 2 (by decide +kernel)); go_simp; go_at_call 46; (with_reducible refine (to_at ⟨wt, ⟨A, c, s⟩⟩ _ (rd_keep hs qX.below) hsl).mono ?_); rintro e uw1 ⟨rfl, ho, hv⟩; rw [e0] at ho ⊢; go_wp2_with fail; exact hK.out _ ⟨qX.more hv, qY.more hv, qR.keep hv, fun a => (a (by simp)).elim, fun _ => ho⟩)
        | (have ql := hN.out.2 2 (by decide +kernel); have qr := qo ql; go_simp; go_at_call 47; (with_reducible refine (LiqW.eq_any ⟨wt, ⟨some ⟨zb, 0, none⟩, s.length, s⟩⟩ ⟨wt, ⟨some ⟨n0 + 3, 0, none⟩, s.length, s⟩⟩ _ qR.rd qr.rd HLM.out HLM.out).mono ?_); rintro e uw1 ⟨rfl, hv⟩; rw [HE.out n0]; go_wp2_with fail; exact hK.out _ ⟨qX.more hv, qY.more hv, qR.keep hv, fun a => (a (.inl ql)).elim, fun h => qr.keep hv⟩)
    try simp only [Act.put, List.setIfInBounds_toArray, List.set_cons_zero, List.set_cons_succ])
  refine SeqH.done rfl ?_
  intro L vz hL hS
  have HB := hS.1.below
  clear hL hS B Y ho
  go_wp2
  go_ret
  exact ⟨rfl, HB⟩
set_option maxHeartbeats 4000000 in
theorem full_law (P : Option Addr) (cap : Nat) (l : List SKind.R) (wt : Int) (A : Option Addr) (s : List Int) (c : Nat) (i : Int) (w : World) (hr : Rd w w.heap.size P (SKind.flat l)) (hn : l.length ≤ maxLen) (hwf : ∀ x ∈ l, x.wf) (hs : Rd w w.heap.size A (iv s)) (hm : s.length ≤ maxLen) :
    Calls Try.prog 7 #[.slice P l.length cap, .agg #[.int .i64 wt, .slice A s.length c], .int .i64 i] w (Yes w) := by
  have hz : ∀ x ∈ l, x.f0.size ≤ maxLen := fun x hx => (hwf x hx).1
  clear hwf
  obtain ⟨p, q, hv⟩ : ∃ p q, fullV l wt s i = .tuple #[.bool p, .bool q] := fullV_form l wt s i
  have HV := Lib.hid hv; clear hv
  have HN := Lib.hid (And.intro hn hm)
  clear hn hm
  go_enter Try.func7, Try.ntmps7
  go_wp2_with fail
  have B := Box.new (Below.refl _ w) [.int .i64 wt, .slice A s.length c] 54 (g := w.heap.size) rfl
  generalize (w.alloc (.cells #[.int .i64 wt, .slice A s.length c] 54)) = W1 at B ⊢
  have B_0 := B.cells 0 _ rfl
  have B_1 := B.cells 1 _ rfl
  have B_f0 := B.free 0 (by simp)
  have B_f1 := B.free 1 (by simp)
  have B_t := B.there
  go_wp2_with fail
  refine (SKind.szS_any P cap l 1048576 _ (rd_keep hr B.below) (by omega) (by omega) HN.out.1 hz).mono ?_
  rintro e v2 ⟨r, rfl, hrs, hv2⟩
  clear B_0 B_1 B_f0 B_f1 B_t
  replace B := B.more hv2
  have zhv2 := hv2.size
  clear hv2
  have B_0 := B.cells 0 _ rfl
  have B_1 := B.cells 1 _ rfl
  have B_f0 := B.free 0 (by simp)
  have B_f1 := B.free 1 (by simp)
  have B_t := B.there
  rcases hrs with rfl | ⟨hr0, hr1⟩
  · go_wp2
    go_ret
    exact ⟨rfl, B.below⟩
  have hl : l.length ≤ 1048576 := by omega
  have hrt : r ≤ 1048576 := by omega
  have B_0 := B.cells 0 _ rfl
  have B_1 := B.cells 1 _ rfl
  have B_f0 := B.free 0 (by simp)
  have B_f1 := B.free 1 (by simp)
  have B_t := B.there
  go_wp2_with fail
  refine (szL_any ⟨wt, ⟨A, c, s⟩⟩ r _ hr0 hrt HN.out.2).mono ?_
  rintro e v3 ⟨rfl, hv3⟩
  clear B_0 B_1 B_f0 B_f1 B_t
  replace B := B.more hv3
  have zhv3 := hv3.size
  clear hv3
  have B_0 := B.cells 0 _ rfl
  have B_1 := B.cells 1 _ rfl
  have B_f0 := B.free 0 (by simp)
  have B_f1 := B.free 1 (by simp)
  have B_t := B.there
  rcases szV_range (n := s.length) hr0 hrt with ⟨hb, _⟩ | ⟨hb0, hb1, hb2⟩
  · rw [hb]
    go_wp2
    go_ret
    exact ⟨rfl, B.below⟩
  have hsl : s.length ≤ 1048576 := by omega
  obtain ⟨rr, hrr⟩ : ∃ v, szV r s.length = v := ⟨_, rfl⟩
  rw [hrr] at hb0 hb1 ⊢
  clear hrr hb1 hb2
  have HLEN := Lib.hid (And.intro hr1 hrt); clear hr1 hrt
  go_wp2
  clear B_0 B_1 B_f0 B_f1 B_t
  refine wp_region_rel [25, 26, 27, 28, 29, 30, 24, 31, 32, 8, 9] (fun L f w' => (Box (w.heap.size) [.int .i64 wt, .slice A s.length c] w w') ∧ (L 0 → f 25 = .slice P l.length cap) ∧ (L 1 → ¬ L 5 → ∃ g, f 26 = .slice (some ⟨g, 0, none⟩) l.length l.length ∧ w'.ownsRow w.heap.size 37 3 (.slice (some ⟨g, 0, none⟩) l.length l.length) l.length (SKind.flat l)) ∧ (L 2 → f 27 = .agg #[.int .i64 wt, .slice A s.length c]) ∧ (L 3 → ¬ L 5 → ∃ g, f 28 = .agg #[.int .i64 wt, .slice (some ⟨g, 0, none⟩) s.length s.length] ∧ RowOwn w' w.heap.size ⟨some ⟨g, 0, none⟩, s.length, s⟩) ∧ (L 4 → f 29 = .int .i64 i) ∧ (L 5 → f 30 = .tuple #[.bool p, .bool q]) ∧ (L 6 → f 24 = .tuple #[.bool p, .bool q]) ∧ (L 7 → f 31 = .bool p) ∧ (L 8 → f 32 = .bool q) ∧ (L 9 → f 8 = .bool p) ∧ (L 10 → f 9 = .bool q)) (by kernel_rfl) (by kernel_rfl) (by kernel_rfl) (fun f => ⟨B.drew, fun h => h.elim, fun h => h.elim, fun h => h.elim, fun h => h.elim, fun h => h.elim, fun h => h.elim, fun h => h.elim, fun h => h.elim, fun h => h.elim, fun h => h.elim, fun h => h.elim⟩) ?_ ?_
  · apply RelH.op2
    · intro L f u K hN hS hK
      simp only [puts, Act.put, List.setIfInBounds_toArray, List.set_cons_zero, List.set_cons_succ, upd, Nat.reduceEqDiff, ↓reduceIte, if_true, if_false] at hK ⊢
      have HS9 := Lib.hid hS
      obtain ⟨qB, c0, c1, c2, c3, c4, c5, c6, c7, c8, c9, c10⟩ := hS
      clear c0 c1 c2 c3 c4 c5 c6 c7 c8 c9 c10
      go_simp
      obtain ⟨qB, c0, c1, c2, c3, c4, c5, c6, c7, c8, c9, c10⟩ := HS9.out
      exact hK.out _ _ ⟨qB, fun _ => rfl, fun h t0 => c1 (h.resolve_right (by decide)) (fun z => t0 (.inl z)), fun h => c2 (h.resolve_right (by decide)), fun h t0 => c3 (h.resolve_right (by decide)) (fun z => t0 (.inl z)), fun h => c4 (h.resolve_right (by decide)), fun h => c5 (h.resolve_right (by decide)), fun h => c6 (h.resolve_right (by decide)), fun h => c7 (h.resolve_right (by decide)), fun h => c8 (h.resolve_right (by decide)), fun h => c9 (h.resolve_right (by decide)), fun h => c10 (h.resolve_right (by decide))⟩ _ rfl
    apply RelH.op2
    · intro L f u K hN hS hK
      simp only [puts, Act.put, List.setIfInBounds_toArray, List.set_cons_zero, List.set_cons_succ, upd, Nat.reduceEqDiff, ↓reduceIte, if_true, if_false] at hK ⊢
      have HS9 := Lib.hid hS
      obtain ⟨qB, c0, c1, c2, c3, c4, c5, c6, c7, c8, c9, c10⟩ := hS
      have e0 := c0 (hN.out.2 0 (by decide +kernel))
      have HCON := Lib.hid (SKind.toS_any P cap l u (rd_keep hr qB.below) hl)
      clear c0 c1 c2 c3 c4 c5 c6 c7 c8 c9 c10
      go_simp
      go_at_call 43
      (with_reducible refine HCON.out.mono ?_)
      rintro e uw1 ⟨rfl, ho, hv⟩
      go_wp2_with fail
      obtain ⟨qB, c0, c1, c2, c3, c4, c5, c6, c7, c8, c9, c10⟩ := HS9.out
      exact hK.out _ _ ⟨qB.more hv, fun h => c0 (h.resolve_right (by decide)), fun _ _ => ⟨_, rfl, own_base ho qB.below.size⟩, fun h => c2 (h.resolve_right (by decide)), fun h t0 => (let ⟨g, e, O⟩ := (c3 (h.resolve_right (by decide)) (fun z => t0 (.inl z))); ⟨g, e, O.keep hv⟩), fun h => c4 (h.resolve_right (by decide)), fun h => c5 (h.resolve_right (by decide)), fun h => c6 (h.resolve_right (by decide)), fun h => c7 (h.resolve_right (by decide)), fun h => c8 (h.resolve_right (by decide)), fun h => c9 (h.resolve_right (by decide)), fun h => c10 (h.resolve_right (by decide))⟩ _ (by simp only [e0])
    apply RelH.op2
    · intro L f u K hN hS hK
      simp only [puts, Act.put, List.setIfInBounds_toArray, List.set_cons_zero, List.set_cons_succ, upd, Nat.reduceEqDiff, ↓reduceIte, if_true, if_false] at hK ⊢
      have HS9 := Lib.hid hS
      obtain ⟨qB, c0, c1, c2, c3, c4, c5, c6, c7, c8, c9, c10⟩ := hS
      have qB_0 := qB.cells 0 _ rfl
      have qB_1 := qB.cells 1 _ rfl
      clear c0 c1 c2 c3 c4 c5 c6 c7 c8 c9 c10
      go_simp
      obtain ⟨qB, c0, c1, c2, c3, c4, c5, c6, c7, c8, c9, c10⟩ := HS9.out
      exact hK.out _ _ ⟨qB, fun h => c0 (h.resolve_right (by decide)), fun h t0 => c1 (h.resolve_right (by decide)) (fun z => t0 (.inl z)), fun _ => rfl, fun h t0 => c3 (h.resolve_right (by decide)) (fun z => t0 (.inl z)), fun h => c4 (h.resolve_right (by decide)), fun h => c5 (h.resolve_right (by decide)), fun h => c6 (h.resolve_right (by decide)), fun h => c7 (h.resolve_right (by decide)), fun h => c8 (h.resolve_right (by decide)), fun h => c9 (h.resolve_right (by decide)), fun h => c10 (h.resolve_right (by decide))⟩ _ rfl
    apply RelH.op2
    · intro L f u K hN hS hK
      simp only [puts, Act.put, List.setIfInBounds_toArray, List.set_cons_zero, List.set_cons_succ, upd, Nat.reduceEqDiff, ↓reduceIte, if_true, if_false] at hK ⊢
      have HS9 := Lib.hid hS
      obtain ⟨qB, c0, c1, c2, c3, c4, c5, c6, c7, c8, c9, c10⟩ := hS
      have e2 := c2 (hN.out.2 2 (by decide +kernel))
      have HCON := Lib.hid (to_at ⟨wt, ⟨A, c, s⟩⟩ u (rd_keep hs qB.below) hsl)
      clear c0 c1 c2 c3 c4 c5 c6 c7 c8 c9 c10
      go_simp
      go_at_call 46
      (with_reducible refine HCON.out.mono ?_)
      rintro e uw1 ⟨rfl, ho, hv⟩
      go_wp2_with fail
      obtain ⟨qB, c0, c1, c2, c3, c4, c5, c6, c7, c8, c9, c10⟩ := HS9.out
      exact hK.out _ _ ⟨qB.more hv, fun h => c0 (h.resolve_right (by decide)), fun h t0 => (let ⟨g, e, O⟩ := (c1 (h.resolve_right (by decide)) (fun z => t0 (.inl z))); ⟨g, e, own_keep O hv⟩), fun h => c2 (h.resolve_right (by decide)), fun _ _ => ⟨_, rfl, ho.base qB.below.size⟩, fun h => c4 (h.resolve_right (by decide)), fun h => c5 (h.resolve_right (by decide)), fun h => c6 (h.resolve_right (by decide)), fun h => c7 (h.resolve_right (by decide)), fun h => c8 (h.resolve_right (by decide)), fun h => c9 (h.resolve_right (by decide)), fun h => c10 (h.resolve_right (by decide))⟩ _ (by simp only [e2])
    apply RelH.op2
    · intro L f u K hN hS hK
      simp only [puts, Act.put, List.setIfInBounds_toArray, List.set_cons_zero, List.set_cons_succ, upd, Nat.reduceEqDiff, ↓reduceIte, if_true, if_false] at hK ⊢
      have HS9 := Lib.hid hS
      obtain ⟨qB, c0, c1, c2, c3, c4, c5, c6, c7, c8, c9, c10⟩ := hS
      clear c0 c1 c2 c3 c4 c5 c6 c7 c8 c9 c10
      go_simp
      obtain ⟨qB, c0, c1, c2, c3, c4, c5, c6, c7, c8, c9, c10⟩ := HS9.out
      exact hK.out _ _ ⟨qB, fun h => c0 (h.resolve_right (by decide)), fun h t0 => c1 (h.resolve_right (by decide)) (fun z => t0 (.inl z)), fun h => c2 (h.resolve_right (by decide)), fun h t0 => c3 (h.resolve_right (by decide)) (fun z => t0 (.inl z)), fun _ => rfl, fun h => c5 (h.resolve_right (by decide)), fun h => c6 (h.resolve_right (by decide)), fun h => c7 (h.resolve_right (by decide)), fun h => c8 (h.resolve_right (by decide)), fun h => c9 (h.resolve_right (by decide)), fun h => c10 (h.resolve_right (by decide))⟩ _ rfl
    apply RelH.op2
    · intro L f u K hN hS hK
      simp only [puts, Act.put, List.setIfInBounds_toArray, List.set_cons_zero, List.set_cons_succ, upd, Nat.reduceEqDiff, ↓reduceIte, if_true, if_false] at hK ⊢
      have HS9 := Lib.hid hS
      obtain ⟨qB, c0, c1, c2, c3, c4, c5, c6, c7, c8, c9, c10⟩ := hS
      obtain ⟨g, e1, O⟩ := c1 (hN.out.2 1 (by decide +kernel)) (hN.out.1 5 (by decide +kernel))
      obtain ⟨g2, e3, O2⟩ := c3 (hN.out.2 3 (by decide +kernel)) (hN.out.1 5 (by decide +kernel))
      have e4 := c4 (hN.out.2 4 (by decide +kernel))
      have HCON := Lib.hid (full_spec (some ⟨g, 0, none⟩) l.length l wt (some ⟨g2, 0, none⟩) s.length s i u ⟨Rd.of_own O, hl, hz, O2.rd, hsl⟩)
      clear c0 c1 c2 c3 c4 c5 c6 c7 c8 c9 c10
      go_simp
      go_at_call 30
      (with_reducible refine HCON.out.mono ?_)
      rintro e uw1 ⟨rfl, hv⟩
      rw [HV.out]
      go_wp2_with fail
      obtain ⟨qB, c0, c1, c2, c3, c4, c5, c6, c7, c8, c9, c10⟩ := HS9.out
      exact hK.out _ _ ⟨qB.more hv, fun h => c0 (h.resolve_right (by decide)), fun h t0 => (t0 (by simp)).elim, fun h => c2 (h.resolve_right (by decide)), fun h t0 => (t0 (by simp)).elim, fun h => c4 (h.resolve_right (by decide)), fun _ => rfl, fun h => c6 (h.resolve_right (by decide)), fun h => c7 (h.resolve_right (by decide)), fun h => c8 (h.resolve_right (by decide)), fun h => c9 (h.resolve_right (by decide)), fun h => c10 (h.resolve_right (by decide))⟩ _ (by simp only [e1, e3, e4])
    apply RelH.op2
    · intro L f u K hN hS hK
      simp only [puts, Act.put, List.setIfInBounds_toArray, List.set_cons_zero, List.set_cons_succ, upd, Nat.reduceEqDiff, ↓reduceIte, if_true, if_false] at hK ⊢
      have HS9 := Lib.hid hS
      obtain ⟨qB, c0, c1, c2, c3, c4, c5, c6, c7, c8, c9, c10⟩ := hS
      have e5 := c5 (hN.out.2 5 (by decide +kernel))
      clear c0 c1 c2 c3 c4 c5 c6 c7 c8 c9 c10
      go_simp
      obtain ⟨qB, c0, c1, c2, c3, c4, c5, c6, c7, c8, c9, c10⟩ := HS9.out
      exact hK.out _ _ ⟨qB, fun h => c0 (h.resolve_right (by decide)), fun h t0 => c1 (h.resolve_right (by decide)) (fun z => t0 (.inl z)), fun h => c2 (h.resolve_right (by decide)), fun h t0 => c3 (h.resolve_right (by decide)) (fun z => t0 (.inl z)), fun h => c4 (h.resolve_right (by decide)), fun h => c5 (h.resolve_right (by decide)), fun _ => rfl, fun h => c7 (h.resolve_right (by decide)), fun h => c8 (h.resolve_right (by decide)), fun h => c9 (h.resolve_right (by decide)), fun h => c10 (h.resolve_right (by decide))⟩ _ (by simp only [e5])
    apply RelH.op2
    · intro L f u K hN hS hK
      simp only [puts, Act.put, List.setIfInBounds_toArray, List.set_cons_zero, List.set_cons_succ, upd, Nat.reduceEqDiff, ↓reduceIte, if_true, if_false] at hK ⊢
      have HS9 := Lib.hid hS
      obtain ⟨qB, c0, c1, c2, c3, c4, c5, c6, c7, c8, c9, c10⟩ := hS
      have e6 := c6 (hN.out.2 6 (by decide +kernel))
      clear c0 c1 c2 c3 c4 c5 c6 c7 c8 c9 c10
      go_simp
      obtain ⟨qB, c0, c1, c2, c3, c4, c5, c6, c7, c8, c9, c10⟩ := HS9.out
      exact hK.out _ _ ⟨qB, fun h => c0 (h.resolve_right (by decide)), fun h t0 => c1 (h.resolve_right (by decide)) (fun z => t0 (.inl z)), fun h => c2 (h.resolve_right (by decide)), fun h t0 => c3 (h.resolve_right (by decide)) (fun z => t0 (.inl z)), fun h => c4 (h.resolve_right (by decide)), fun h => c5 (h.resolve_right (by decide)), fun h => c6 (h.resolve_right (by decide)), fun _ => rfl, fun h => c8 (h.resolve_right (by decide)), fun h => c9 (h.resolve_right (by decide)), fun h => c10 (h.resolve_right (by decide))⟩ _ (by simp only [e6])
    apply RelH.op2
    · intro L f u K hN hS hK
      simp only [puts, Act.put, List.setIfInBounds_toArray, List.set_cons_zero, List.set_cons_succ, upd, Nat.reduceEqDiff, ↓reduceIte, if_true, if_false] at hK ⊢
      have HS9 := Lib.hid hS
      obtain ⟨qB, c0, c1, c2, c3, c4, c5, c6, c7, c8, c9, c10⟩ := hS
      have e6 := c6 (hN.out.2 6 (by decide +kernel))
      clear c0 c1 c2 c3 c4 c5 c6 c7 c8 c9 c10
      go_simp
      obtain ⟨qB, c0, c1, c2, c3, c4, c5, c6, c7, c8, c9, c10⟩ := HS9.out
      exact hK.out _ _ ⟨qB, fun h => c0 (h.resolve_right (by decide)), fun h t0 => c1 (h.resolve_right (by decide)) (fun z => t0 (.inl z)), fun h => c2 (h.resolve_right (by decide)), fun h t0 => c3 (h.resolve_right (by decide)) (fun z => t0 (.inl z)), fun h => c4 (h.resolve_right (by decide)), fun h => c5 (h.resolve_right (by decide)), fun h => c6 (h.resolve_right (by decide)), fun h => c7 (h.resolve_right (by decide)), fun _ => rfl, fun h => c9 (h.resolve_right (by decide)), fun h => c10 (h.resolve_right (by decide))⟩ _ (by simp only [e6])
    apply RelH.op2
    · intro L f u K hN hS hK
      simp only [puts, Act.put, List.setIfInBounds_toArray, List.set_cons_zero, List.set_cons_succ, upd, Nat.reduceEqDiff, ↓reduceIte, if_true, if_false] at hK ⊢
      have HS9 := Lib.hid hS
      obtain ⟨qB, c0, c1, c2, c3, c4, c5, c6, c7, c8, c9, c10⟩ := hS
      have e7 := c7 (hN.out.2 7 (by decide +kernel))
      clear c0 c1 c2 c3 c4 c5 c6 c7 c8 c9 c10
      go_simp
      obtain ⟨qB, c0, c1, c2, c3, c4, c5, c6, c7, c8, c9, c10⟩ := HS9.out
      exact hK.out _ _ ⟨qB, fun h => c0 (h.resolve_right (by decide)), fun h t0 => c1 (h.resolve_right (by decide)) (fun z => t0 (.inl z)), fun h => c2 (h.resolve_right (by decide)), fun h t0 => c3 (h.resolve_right (by decide)) (fun z => t0 (.inl z)), fun h => c4 (h.resolve_right (by decide)), fun h => c5 (h.resolve_right (by decide)), fun h => c6 (h.resolve_right (by decide)), fun h => c7 (h.resolve_right (by decide)), fun h => c8 (h.resolve_right (by decide)), fun _ => rfl, fun h => c10 (h.resolve_right (by decide))⟩ _ (by simp only [e7])
    apply RelH.op2
    · intro L f u K hN hS hK
      simp only [puts, Act.put, List.setIfInBounds_toArray, List.set_cons_zero, List.set_cons_succ, upd, Nat.reduceEqDiff, ↓reduceIte, if_true, if_false] at hK ⊢
      have HS9 := Lib.hid hS
      obtain ⟨qB, c0, c1, c2, c3, c4, c5, c6, c7, c8, c9, c10⟩ := hS
      have e8 := c8 (hN.out.2 8 (by decide +kernel))
      clear c0 c1 c2 c3 c4 c5 c6 c7 c8 c9 c10
      go_simp
      obtain ⟨qB, c0, c1, c2, c3, c4, c5, c6, c7, c8, c9, c10⟩ := HS9.out
      exact hK.out _ _ ⟨qB, fun h => c0 (h.resolve_right (by decide)), fun h t0 => c1 (h.resolve_right (by decide)) (fun z => t0 (.inl z)), fun h => c2 (h.resolve_right (by decide)), fun h t0 => c3 (h.resolve_right (by decide)) (fun z => t0 (.inl z)), fun h => c4 (h.resolve_right (by decide)), fun h => c5 (h.resolve_right (by decide)), fun h => c6 (h.resolve_right (by decide)), fun h => c7 (h.resolve_right (by decide)), fun h => c8 (h.resolve_right (by decide)), fun h => c9 (h.resolve_right (by decide)), fun _ => rfl⟩ _ (by simp only [e8])
    exact RelH.done
  intro L f V0 hL hS
  simp only [puts, Act.put, List.setIfInBounds_toArray, List.set_cons_zero, List.set_cons_succ]
  obtain ⟨qB, c0, c1, c2, c3, c4, c5, c6, c7, c8, c9, c10⟩ := hS
  clear B
  have B := qB; clear qB
  have e0 := c0 (hL 0 (by decide))
  have e2 := c2 (hL 2 (by decide))
  have e4 := c4 (hL 4 (by decide))
  have e5 := c5 (hL 5 (by decide))
  have e6 := c6 (hL 6 (by decide))
  have e7 := c7 (hL 7 (by decide))
  have e8 := c8 (hL 8 (by decide))
  have e9 := c9 (hL 9 (by decide))
  have e10 := c10 (hL 10 (by decide))
  simp only [e9, e10]
  clear e0 e2 e4 e5 e6 e7 e8 e9 e10 c0 c1 c2 c3 c4 c5 c6 c7 c8 c9 c10 hL
  go_wp2_with fail
  refine (SKind.toS_any P cap l _ (rd_keep hr B.below) hl).mono ?_
  rintro e v4 ⟨rfl, OX, hv4⟩
  replace B := B.more hv4
  have zhv4 := hv4.size
  clear hv4
  have B_0 := B.cells 0 _ rfl
  have B_1 := B.cells 1 _ rfl
  have B_f0 := B.free 0 (by simp)
  have B_f1 := B.free 1 (by simp)
  have B_t := B.there
  go_wp2_with fail
  refine (to_at ⟨wt, ⟨A, c, s⟩⟩ _ (rd_keep hs B.below) hsl).mono ?_
  rintro e v5 ⟨rfl, ho, hv5⟩
  clear B_0 B_1 B_f0 B_f1 B_t
  replace B := B.more hv5
  replace OX := own_keep OX hv5
  have zhv5 := hv5.size
  clear hv5
  have B_0 := B.cells 0 _ rfl
  have B_1 := B.cells 1 _ rfl
  have B_f0 := B.free 0 (by simp)
  have B_f1 := B.free 1 (by simp)
  have B_t := B.there
  obtain ⟨zb, hzb⟩ : ∃ b, v4.heap.size + 3 = b := ⟨_, rfl⟩
  rw [hzb] at ho ⊢
  clear hzb
  go_wp2_with fail
  have HB0 := B.below
  have B_t6 := B.there
  have Y := Box.new B.below [.int .i64 wt, .slice (some ⟨zb, 0, none⟩) s.length s.length] 27 (g := v5.heap.size) rfl
  clear B_0 B_1 B_f0 B_f1 B_t
  replace B := (B).alloc (.cells #[.int .i64 wt, .slice (some ⟨zb, 0, none⟩) s.length s.length] 27)
  replace OX := own_keep OX (al (Below.refl _ _) (o := (.cells #[.int .i64 wt, .slice (some ⟨zb, 0, none⟩) s.length s.length] 27)))
  replace ho := RowOwn.keep ho (al (Below.refl _ _) (o := (.cells #[.int .i64 wt, .slice (some ⟨zb, 0, none⟩) s.length s.length] 27)))
  generalize (v5.alloc (.cells #[.int .i64 wt, .slice (some ⟨zb, 0, none⟩) s.length s.length] 27)) = W6 at Y B OX ho ⊢
  have B_0 := B.cells 0 _ rfl
  have B_1 := B.cells 1 _ rfl
  have B_f0 := B.free 0 (by simp)
  have B_f1 := B.free 1 (by simp)
  have B_t := B.there
  have Y_0 := Y.cells 0 _ rfl
  have Y_1 := Y.cells 1 _ rfl
  have Y_f0 := Y.free 0 (by simp)
  have Y_f1 := Y.free 1 (by simp)
  have Y_t := Y.there
  have Y_0 := Y.cells 0 _ rfl
  have Y_1 := Y.cells 1 _ rfl
  have Y_f0 := Y.free 0 (by simp)
  have Y_f1 := Y.free 1 (by simp)
  have Y_t := Y.there
  go_wp2_with fail
  refine (full_impl _ _ l wt (some ⟨zb, 0, none⟩) s.length s i _ ⟨Rd.of_own OX, hl, hz, ho.rd, hsl⟩).mono ?_
  rintro e v7 ⟨rfl, hv7⟩
  clear B_0 B_1 B_f0 B_f1 B_t
  clear Y_0 Y_1 Y_f0 Y_f1 Y_t
  replace B := B.more hv7
  replace Y := Y.more hv7
  replace OX := own_keep OX hv7
  replace ho := RowOwn.keep ho hv7
  have zhv7 := hv7.size
  clear hv7
  have B_0 := B.cells 0 _ rfl
  have B_1 := B.cells 1 _ rfl
  have B_f0 := B.free 0 (by simp)
  have B_f1 := B.free 1 (by simp)
  have B_t := B.there
  have Y_0 := Y.cells 0 _ rfl
  have Y_1 := Y.cells 1 _ rfl
  have Y_f0 := Y.free 0 (by simp)
  have Y_f1 := Y.free 1 (by simp)
  have Y_t := Y.there
  rw [HV.out]
  go_wp2_with fail
  refine (SKind.toS_any P cap l _ (rd_keep hr B.below) hl).mono ?_
  rintro e v8 ⟨rfl, ho2, hv8⟩
  clear B_0 B_1 B_f0 B_f1 B_t
  clear Y_0 Y_1 Y_f0 Y_f1 Y_t
  replace B := B.more hv8
  replace Y := Y.more hv8
  replace OX := own_keep OX hv8
  replace ho := RowOwn.keep ho hv8
  have zhv8 := hv8.size
  clear hv8
  have B_0 := B.cells 0 _ rfl
  have B_1 := B.cells 1 _ rfl
  have B_f0 := B.free 0 (by simp)
  have B_f1 := B.free 1 (by simp)
  have B_t := B.there
  have Y_0 := Y.cells 0 _ rfl
  have Y_1 := Y.cells 1 _ rfl
  have Y_f0 := Y.free 0 (by simp)
  have Y_f1 := Y.free 1 (by simp)
  have Y_t := Y.there
  go_wp2_with fail
  refine (SKind.eqS_any _ _ _ _ l l _ (Rd.of_own OX) (Rd.of_own ho2) HN.out.1 HN.out.1).mono ?_
  rintro e v9 ⟨rfl, hv9⟩
  clear B_0 B_1 B_f0 B_f1 B_t
  clear Y_0 Y_1 Y_f0 Y_f1 Y_t
  replace B := B.more hv9
  replace Y := Y.more hv9
  replace OX := own_keep OX hv9
  replace ho := RowOwn.keep ho hv9
  have zhv9 := hv9.size
  clear hv9
  have B_0 := B.cells 0 _ rfl
  have B_1 := B.cells 1 _ rfl
  have B_f0 := B.free 0 (by simp)
  have B_f1 := B.free 1 (by simp)
  have B_t := B.there
  have Y_0 := Y.cells 0 _ rfl
  have Y_1 := Y.cells 1 _ rfl
  have Y_f0 := Y.free 0 (by simp)
  have Y_f1 := Y.free 1 (by simp)
  have Y_t := Y.there
  rw [decide_eq_true rfl]
  clear ho2 HB0
  go_wp2_with fail
  have HE := Lib.hid (fun n0 : Nat => same_yes (x := ⟨wt, ⟨some ⟨zb, 0, none⟩, s.length, s⟩⟩) (y := ⟨wt, ⟨some ⟨n0 + 3, 0, none⟩, s.length, s⟩⟩) rfl rfl)
  have HLM := Lib.hid (show s.length ≤ maxLen by unfold maxLen; omega)
  clear B_0 B_1 B_f0 B_f1 B_t
  clear Y_0 Y_1 Y_f0 Y_f1 Y_t
  obtain ⟨n0, hn0⟩ : ∃ n, n = v9.heap.size := ⟨_, rfl⟩
  refine wp_region_seq (fun L w' => Box (w.heap.size) [.int .i64 wt, .slice A s.length c] w w' ∧ Box (v5.heap.size) [.int .i64 wt, .slice (some ⟨zb, 0, none⟩) s.length s.length] w w' ∧
    RowOwn w' v4.heap.size ⟨some ⟨zb, 0, none⟩, s.length, s⟩ ∧ (¬ L 2 → w'.heap.size = n0) ∧ (L 2 → RowOwn w' n0 ⟨some ⟨n0 + 3, 0, none⟩, s.length, s⟩)) (by kernel_rfl) (by kernel_rfl) ⟨B.drew, Y.drew, ho.keep (Below.refl _ _).drew, fun _ => hn0.symm, fun h => h.elim⟩ ?_
  replace hn0 := Lib.hid hn0
  iterate 5 (
    apply SeqH.op
    · intro L uw K hN hS hK
      obtain ⟨qX, qY, qR, qz, qo⟩ := hS
      have qX_0 := qX.cells 0 _ rfl; have qX_1 := qX.cells 1 _ rfl
      have qY_0 := qY.cells 0 _ rfl; have qY_1 := qY.cells 1 _ rfl
      first
        | (go_simp; exact hK.out _ ⟨qX, qY, qR, fun a => qz (fun h => a (.inl h)), fun h => qo (h.resolve_right (by decide))⟩)
        | (have e0 := qz (hN.out.1 2 (by decide +kernel)); go_simp; go_at_call 46; (with_reducible refine (to_at ⟨wt, ⟨A, c, s⟩⟩ _ (rd_keep hs qX.below) hsl).mono ?_); rintro e uw1 ⟨rfl, ho, hv⟩; rw [e0] at ho ⊢; go_wp2_with fail; exact hK.out _ ⟨qX.more hv, qY.more hv, qR.keep hv, fun a => (a (by simp)).elim, fun _ => ho⟩)
        | (have ql := hN.out.2 2 (by decide +kernel); have qr := qo ql; go_simp; go_at_call 47; (with_reducible refine (LiqW.eq_any ⟨wt, ⟨some ⟨zb, 0, none⟩, s.length, s⟩⟩ ⟨wt, ⟨some ⟨n0 + 3, 0, none⟩, s.length, s⟩⟩ _ qR.rd qr.rd HLM.out HLM.out).mono ?_); rintro e uw1 ⟨rfl, hv⟩; rw [HE.out n0]; go_wp2_with fail; exact hK.out _ ⟨qX.more hv, qY.more hv, qR.keep hv, fun a => (a (.inl ql)).elim, fun h => qr.keep hv⟩)
    try simp only [Act.put, List.setIfInBounds_toArray, List.set_cons_zero, List.set_cons_succ])
  refine SeqH.done rfl ?_
  intro L vz hL hS
  have HB := hS.1.below
  clear hL hS B Y ho
  go_wp2
  go_ret
  exact ⟨rfl, HB⟩
set_option maxHeartbeats 4000000 in
theorem keep_law (P : Option Addr) (cap : Nat) (l : List SKind.R) (wt : Int) (A : Option Addr) (s : List Int) (c : Nat) (i : Int) (w : World) (hr : Rd w w.heap.size P (SKind.flat l)) (hn : l.length ≤ maxLen) (hwf : ∀ x ∈ l, x.wf) (hs : Rd w w.heap.size A (iv s)) (hm : s.length ≤ maxLen) :
    Calls Try.prog 11 #[.slice P l.length cap, .agg #[.int .i64 wt, .slice A s.length c], .int .i64 i] w (Yes w) := by
  have hz : ∀ x ∈ l, x.f0.size ≤ maxLen := fun x hx => (hwf x hx).1
  clear hwf
  obtain ⟨p, q, hv⟩ : ∃ p q, keptV l wt s i = .tuple #[.int .i64 p, .bool q] := keptV_form l wt s i
  have HV := Lib.hid hv; clear hv
  have HN := Lib.hid (And.intro hn hm)
  clear hn hm
  go_enter Try.func11, Try.ntmps11
  go_wp2_with fail
  have B := Box.new (Below.refl _ w) [.int .i64 wt, .slice A s.length c] 54 (g := w.heap.size) rfl
  generalize (w.alloc (.cells #[.int .i64 wt, .slice A s.length c] 54)) = W1 at B ⊢
  have B_0 := B.cells 0 _ rfl
  have B_1 := B.cells 1 _ rfl
  have B_f0 := B.free 0 (by simp)
  have B_f1 := B.free 1 (by simp)
  have B_t := B.there
  go_wp2_with fail
  refine (SKind.szS_any P cap l 1048576 _ (rd_keep hr B.below) (by omega) (by omega) HN.out.1 hz).mono ?_
  rintro e v2 ⟨r, rfl, hrs, hv2⟩
  clear B_0 B_1 B_f0 B_f1 B_t
  replace B := B.more hv2
  have zhv2 := hv2.size
  clear hv2
  have B_0 := B.cells 0 _ rfl
  have B_1 := B.cells 1 _ rfl
  have B_f0 := B.free 0 (by simp)
  have B_f1 := B.free 1 (by simp)
  have B_t := B.there
  rcases hrs with rfl | ⟨hr0, hr1⟩
  · go_wp2
    go_ret
    exact ⟨rfl, B.below⟩
  have hl : l.length ≤ 1048576 := by omega
  have hrt : r ≤ 1048576 := by omega
  have B_0 := B.cells 0 _ rfl
  have B_1 := B.cells 1 _ rfl
  have B_f0 := B.free 0 (by simp)
  have B_f1 := B.free 1 (by simp)
  have B_t := B.there
  go_wp2_with fail
  refine (szL_any ⟨wt, ⟨A, c, s⟩⟩ r _ hr0 hrt HN.out.2).mono ?_
  rintro e v3 ⟨rfl, hv3⟩
  clear B_0 B_1 B_f0 B_f1 B_t
  replace B := B.more hv3
  have zhv3 := hv3.size
  clear hv3
  have B_0 := B.cells 0 _ rfl
  have B_1 := B.cells 1 _ rfl
  have B_f0 := B.free 0 (by simp)
  have B_f1 := B.free 1 (by simp)
  have B_t := B.there
  rcases szV_range (n := s.length) hr0 hrt with ⟨hb, _⟩ | ⟨hb0, hb1, hb2⟩
  · rw [hb]
    go_wp2
    go_ret
    exact ⟨rfl, B.below⟩
  have hsl : s.length ≤ 1048576 := by omega
  obtain ⟨rr, hrr⟩ : ∃ v, szV r s.length = v := ⟨_, rfl⟩
  rw [hrr] at hb0 hb1 ⊢
  clear hrr hb1 hb2
  have HLEN := Lib.hid (And.intro hr1 hrt); clear hr1 hrt
  go_wp2
  clear B_0 B_1 B_f0 B_f1 B_t
  refine wp_region_rel [25, 26, 27, 28, 29, 30, 24, 31, 32, 8, 9] (fun L f w' => (Box (w.heap.size) [.int .i64 wt, .slice A s.length c] w w') ∧ (L 0 → f 25 = .slice P l.length cap) ∧ (L 1 → ¬ L 5 → ∃ g, f 26 = .slice (some ⟨g, 0, none⟩) l.length l.length ∧ w'.ownsRow w.heap.size 37 3 (.slice (some ⟨g, 0, none⟩) l.length l.length) l.length (SKind.flat l)) ∧ (L 2 → f 27 = .agg #[.int .i64 wt, .slice A s.length c]) ∧ (L 3 → ¬ L 5 → ∃ g, f 28 = .agg #[.int .i64 wt, .slice (some ⟨g, 0, none⟩) s.length s.length] ∧ RowOwn w' w.heap.size ⟨some ⟨g, 0, none⟩, s.length, s⟩) ∧ (L 4 → f 29 = .int .i64 i) ∧ (L 5 → f 30 = .tuple #[.int .i64 p, .bool q]) ∧ (L 6 → f 24 = .tuple #[.int .i64 p, .bool q]) ∧ (L 7 → f 31 = .int .i64 p) ∧ (L 8 → f 32 = .bool q) ∧ (L 9 → f 8 = .int .i64 p) ∧ (L 10 → f 9 = .bool q)) (by kernel_rfl) (by kernel_rfl) (by kernel_rfl) (fun f => ⟨B.drew, fun h => h.elim, fun h => h.elim, fun h => h.elim, fun h => h.elim, fun h => h.elim, fun h => h.elim, fun h => h.elim, fun h => h.elim, fun h => h.elim, fun h => h.elim, fun h => h.elim⟩) ?_ ?_
  · apply RelH.op2
    · intro L f u K hN hS hK
      simp only [puts, Act.put, List.setIfInBounds_toArray, List.set_cons_zero, List.set_cons_succ, upd, Nat.reduceEqDiff, ↓reduceIte, if_true, if_false] at hK ⊢
      have HS9 := Lib.hid hS
      obtain ⟨qB, c0, c1, c2, c3, c4, c5, c6, c7, c8, c9, c10⟩ := hS
      clear c0 c1 c2 c3 c4 c5 c6 c7 c8 c9 c10
      go_simp
      obtain ⟨qB, c0, c1, c2, c3, c4, c5, c6, c7, c8, c9, c10⟩ := HS9.out
      exact hK.out _ _ ⟨qB, fun _ => rfl, fun h t0 => c1 (h.resolve_right (by decide)) (fun z => t0 (.inl z)), fun h => c2 (h.resolve_right (by decide)), fun h t0 => c3 (h.resolve_right (by decide)) (fun z => t0 (.inl z)), fun h => c4 (h.resolve_right (by decide)), fun h => c5 (h.resolve_right (by decide)), fun h => c6 (h.resolve_right (by decide)), fun h => c7 (h.resolve_right (by decide)), fun h => c8 (h.resolve_right (by decide)), fun h => c9 (h.resolve_right (by decide)), fun h => c10 (h.resolve_right (by decide))⟩ _ rfl
    apply RelH.op2
    · intro L f u K hN hS hK
      simp only [puts, Act.put, List.setIfInBounds_toArray, List.set_cons_zero, List.set_cons_succ, upd, Nat.reduceEqDiff, ↓reduceIte, if_true, if_false] at hK ⊢
      have HS9 := Lib.hid hS
      obtain ⟨qB, c0, c1, c2, c3, c4, c5, c6, c7, c8, c9, c10⟩ := hS
      have e0 := c0 (hN.out.2 0 (by decide +kernel))
      have HCON := Lib.hid (SKind.toS_any P cap l u (rd_keep hr qB.below) hl)
      clear c0 c1 c2 c3 c4 c5 c6 c7 c8 c9 c10
      go_simp
      go_at_call 43
      (with_reducible refine HCON.out.mono ?_)
      rintro e uw1 ⟨rfl, ho, hv⟩
      go_wp2_with fail
      obtain ⟨qB, c0, c1, c2, c3, c4, c5, c6, c7, c8, c9, c10⟩ := HS9.out
      exact hK.out _ _ ⟨qB.more hv, fun h => c0 (h.resolve_right (by decide)), fun _ _ => ⟨_, rfl, own_base ho qB.below.size⟩, fun h => c2 (h.resolve_right (by decide)), fun h t0 => (let ⟨g, e, O⟩ := (c3 (h.resolve_right (by decide)) (fun z => t0 (.inl z))); ⟨g, e, O.keep hv⟩), fun h => c4 (h.resolve_right (by decide)), fun h => c5 (h.resolve_right (by decide)), fun h => c6 (h.resolve_right (by decide)), fun h => c7 (h.resolve_right (by decide)), fun h => c8 (h.resolve_right (by decide)), fun h => c9 (h.resolve_right (by decide)), fun h => c10 (h.resolve_right (by decide))⟩ _ (by simp only [e0])
    apply RelH.op2
    · intro L f u K hN hS hK
      simp only [puts, Act.put, List.setIfInBounds_toArray, List.set_cons_zero, List.set_cons_succ, upd, Nat.reduceEqDiff, ↓reduceIte, if_true, if_false] at hK ⊢
      have HS9 := Lib.hid hS
      obtain ⟨qB, c0, c1, c2, c3, c4, c5, c6, c7, c8, c9, c10⟩ := hS
      have qB_0 := qB.cells 0 _ rfl
      have qB_1 := qB.cells 1 _ rfl
      clear c0 c1 c2 c3 c4 c5 c6 c7 c8 c9 c10
      go_simp
      obtain ⟨qB, c0, c1, c2, c3, c4, c5, c6, c7, c8, c9, c10⟩ := HS9.out
      exact hK.out _ _ ⟨qB, fun h => c0 (h.resolve_right (by decide)), fun h t0 => c1 (h.resolve_right (by decide)) (fun z => t0 (.inl z)), fun _ => rfl, fun h t0 => c3 (h.resolve_right (by decide)) (fun z => t0 (.inl z)), fun h => c4 (h.resolve_right (by decide)), fun h => c5 (h.resolve_right (by decide)), fun h => c6 (h.resolve_right (by decide)), fun h => c7 (h.resolve_right (by decide)), fun h => c8 (h.resolve_right (by decide)), fun h => c9 (h.resolve_right (by decide)), fun h => c10 (h.resolve_right (by decide))⟩ _ rfl
    apply RelH.op2
    · intro L f u K hN hS hK
      simp only [puts, Act.put, List.setIfInBounds_toArray, List.set_cons_zero, List.set_cons_succ, upd, Nat.reduceEqDiff, ↓reduceIte, if_true, if_false] at hK ⊢
      have HS9 := Lib.hid hS
      obtain ⟨qB, c0, c1, c2, c3, c4, c5, c6, c7, c8, c9, c10⟩ := hS
      have e2 := c2 (hN.out.2 2 (by decide +kernel))
      have HCON := Lib.hid (to_at ⟨wt, ⟨A, c, s⟩⟩ u (rd_keep hs qB.below) hsl)
      clear c0 c1 c2 c3 c4 c5 c6 c7 c8 c9 c10
      go_simp
      go_at_call 46
      (with_reducible refine HCON.out.mono ?_)
      rintro e uw1 ⟨rfl, ho, hv⟩
      go_wp2_with fail
      obtain ⟨qB, c0, c1, c2, c3, c4, c5, c6, c7, c8, c9, c10⟩ := HS9.out
      exact hK.out _ _ ⟨qB.more hv, fun h => c0 (h.resolve_right (by decide)), fun h t0 => (let ⟨g, e, O⟩ := (c1 (h.resolve_right (by decide)) (fun z => t0 (.inl z))); ⟨g, e, own_keep O hv⟩), fun h => c2 (h.resolve_right (by decide)), fun _ _ => ⟨_, rfl, ho.base qB.below.size⟩, fun h => c4 (h.resolve_right (by decide)), fun h => c5 (h.resolve_right (by decide)), fun h => c6 (h.resolve_right (by decide)), fun h => c7 (h.resolve_right (by decide)), fun h => c8 (h.resolve_right (by decide)), fun h => c9 (h.resolve_right (by decide)), fun h => c10 (h.resolve_right (by decide))⟩ _ (by simp only [e2])
    apply RelH.op2
    · intro L f u K hN hS hK
      simp only [puts, Act.put, List.setIfInBounds_toArray, List.set_cons_zero, List.set_cons_succ, upd, Nat.reduceEqDiff, ↓reduceIte, if_true, if_false] at hK ⊢
      have HS9 := Lib.hid hS
      obtain ⟨qB, c0, c1, c2, c3, c4, c5, c6, c7, c8, c9, c10⟩ := hS
      clear c0 c1 c2 c3 c4 c5 c6 c7 c8 c9 c10
      go_simp
      obtain ⟨qB, c0, c1, c2, c3, c4, c5, c6, c7, c8, c9, c10⟩ := HS9.out
      exact hK.out _ _ ⟨qB, fun h => c0 (h.resolve_right (by decide)), fun h t0 => c1 (h.resolve_right (by decide)) (fun z => t0 (.inl z)), fun h => c2 (h.resolve_right (by decide)), fun h t0 => c3 (h.resolve_right (by decide)) (fun z => t0 (.inl z)), fun _ => rfl, fun h => c5 (h.resolve_right (by decide)), fun h => c6 (h.resolve_right (by decide)), fun h => c7 (h.resolve_right (by decide)), fun h => c8 (h.resolve_right (by decide)), fun h => c9 (h.resolve_right (by decide)), fun h => c10 (h.resolve_right (by decide))⟩ _ rfl
    apply RelH.op2
    · intro L f u K hN hS hK
      simp only [puts, Act.put, List.setIfInBounds_toArray, List.set_cons_zero, List.set_cons_succ, upd, Nat.reduceEqDiff, ↓reduceIte, if_true, if_false] at hK ⊢
      have HS9 := Lib.hid hS
      obtain ⟨qB, c0, c1, c2, c3, c4, c5, c6, c7, c8, c9, c10⟩ := hS
      obtain ⟨g, e1, O⟩ := c1 (hN.out.2 1 (by decide +kernel)) (hN.out.1 5 (by decide +kernel))
      obtain ⟨g2, e3, O2⟩ := c3 (hN.out.2 3 (by decide +kernel)) (hN.out.1 5 (by decide +kernel))
      have e4 := c4 (hN.out.2 4 (by decide +kernel))
      have HCON := Lib.hid (kept_spec (some ⟨g, 0, none⟩) l.length l wt (some ⟨g2, 0, none⟩) s.length s i u ⟨Rd.of_own O, hl, hz, O2.rd, hsl⟩)
      clear c0 c1 c2 c3 c4 c5 c6 c7 c8 c9 c10
      go_simp
      go_at_call 38
      (with_reducible refine HCON.out.mono ?_)
      rintro e uw1 ⟨rfl, hv⟩
      rw [HV.out]
      go_wp2_with fail
      obtain ⟨qB, c0, c1, c2, c3, c4, c5, c6, c7, c8, c9, c10⟩ := HS9.out
      exact hK.out _ _ ⟨qB.more hv, fun h => c0 (h.resolve_right (by decide)), fun h t0 => (t0 (by simp)).elim, fun h => c2 (h.resolve_right (by decide)), fun h t0 => (t0 (by simp)).elim, fun h => c4 (h.resolve_right (by decide)), fun _ => rfl, fun h => c6 (h.resolve_right (by decide)), fun h => c7 (h.resolve_right (by decide)), fun h => c8 (h.resolve_right (by decide)), fun h => c9 (h.resolve_right (by decide)), fun h => c10 (h.resolve_right (by decide))⟩ _ (by simp only [e1, e3, e4])
    apply RelH.op2
    · intro L f u K hN hS hK
      simp only [puts, Act.put, List.setIfInBounds_toArray, List.set_cons_zero, List.set_cons_succ, upd, Nat.reduceEqDiff, ↓reduceIte, if_true, if_false] at hK ⊢
      have HS9 := Lib.hid hS
      obtain ⟨qB, c0, c1, c2, c3, c4, c5, c6, c7, c8, c9, c10⟩ := hS
      have e5 := c5 (hN.out.2 5 (by decide +kernel))
      clear c0 c1 c2 c3 c4 c5 c6 c7 c8 c9 c10
      go_simp
      obtain ⟨qB, c0, c1, c2, c3, c4, c5, c6, c7, c8, c9, c10⟩ := HS9.out
      exact hK.out _ _ ⟨qB, fun h => c0 (h.resolve_right (by decide)), fun h t0 => c1 (h.resolve_right (by decide)) (fun z => t0 (.inl z)), fun h => c2 (h.resolve_right (by decide)), fun h t0 => c3 (h.resolve_right (by decide)) (fun z => t0 (.inl z)), fun h => c4 (h.resolve_right (by decide)), fun h => c5 (h.resolve_right (by decide)), fun _ => rfl, fun h => c7 (h.resolve_right (by decide)), fun h => c8 (h.resolve_right (by decide)), fun h => c9 (h.resolve_right (by decide)), fun h => c10 (h.resolve_right (by decide))⟩ _ (by simp only [e5])
    apply RelH.op2
    · intro L f u K hN hS hK
      simp only [puts, Act.put, List.setIfInBounds_toArray, List.set_cons_zero, List.set_cons_succ, upd, Nat.reduceEqDiff, ↓reduceIte, if_true, if_false] at hK ⊢
      have HS9 := Lib.hid hS
      obtain ⟨qB, c0, c1, c2, c3, c4, c5, c6, c7, c8, c9, c10⟩ := hS
      have e6 := c6 (hN.out.2 6 (by decide +kernel))
      clear c0 c1 c2 c3 c4 c5 c6 c7 c8 c9 c10
      go_simp
      obtain ⟨qB, c0, c1, c2, c3, c4, c5, c6, c7, c8, c9, c10⟩ := HS9.out
      exact hK.out _ _ ⟨qB, fun h => c0 (h.resolve_right (by decide)), fun h t0 => c1 (h.resolve_right (by decide)) (fun z => t0 (.inl z)), fun h => c2 (h.resolve_right (by decide)), fun h t0 => c3 (h.resolve_right (by decide)) (fun z => t0 (.inl z)), fun h => c4 (h.resolve_right (by decide)), fun h => c5 (h.resolve_right (by decide)), fun h => c6 (h.resolve_right (by decide)), fun _ => rfl, fun h => c8 (h.resolve_right (by decide)), fun h => c9 (h.resolve_right (by decide)), fun h => c10 (h.resolve_right (by decide))⟩ _ (by simp only [e6])
    apply RelH.op2
    · intro L f u K hN hS hK
      simp only [puts, Act.put, List.setIfInBounds_toArray, List.set_cons_zero, List.set_cons_succ, upd, Nat.reduceEqDiff, ↓reduceIte, if_true, if_false] at hK ⊢
      have HS9 := Lib.hid hS
      obtain ⟨qB, c0, c1, c2, c3, c4, c5, c6, c7, c8, c9, c10⟩ := hS
      have e6 := c6 (hN.out.2 6 (by decide +kernel))
      clear c0 c1 c2 c3 c4 c5 c6 c7 c8 c9 c10
      go_simp
      obtain ⟨qB, c0, c1, c2, c3, c4, c5, c6, c7, c8, c9, c10⟩ := HS9.out
      exact hK.out _ _ ⟨qB, fun h => c0 (h.resolve_right (by decide)), fun h t0 => c1 (h.resolve_right (by decide)) (fun z => t0 (.inl z)), fun h => c2 (h.resolve_right (by decide)), fun h t0 => c3 (h.resolve_right (by decide)) (fun z => t0 (.inl z)), fun h => c4 (h.resolve_right (by decide)), fun h => c5 (h.resolve_right (by decide)), fun h => c6 (h.resolve_right (by decide)), fun h => c7 (h.resolve_right (by decide)), fun _ => rfl, fun h => c9 (h.resolve_right (by decide)), fun h => c10 (h.resolve_right (by decide))⟩ _ (by simp only [e6])
    apply RelH.op2
    · intro L f u K hN hS hK
      simp only [puts, Act.put, List.setIfInBounds_toArray, List.set_cons_zero, List.set_cons_succ, upd, Nat.reduceEqDiff, ↓reduceIte, if_true, if_false] at hK ⊢
      have HS9 := Lib.hid hS
      obtain ⟨qB, c0, c1, c2, c3, c4, c5, c6, c7, c8, c9, c10⟩ := hS
      have e7 := c7 (hN.out.2 7 (by decide +kernel))
      clear c0 c1 c2 c3 c4 c5 c6 c7 c8 c9 c10
      go_simp
      obtain ⟨qB, c0, c1, c2, c3, c4, c5, c6, c7, c8, c9, c10⟩ := HS9.out
      exact hK.out _ _ ⟨qB, fun h => c0 (h.resolve_right (by decide)), fun h t0 => c1 (h.resolve_right (by decide)) (fun z => t0 (.inl z)), fun h => c2 (h.resolve_right (by decide)), fun h t0 => c3 (h.resolve_right (by decide)) (fun z => t0 (.inl z)), fun h => c4 (h.resolve_right (by decide)), fun h => c5 (h.resolve_right (by decide)), fun h => c6 (h.resolve_right (by decide)), fun h => c7 (h.resolve_right (by decide)), fun h => c8 (h.resolve_right (by decide)), fun _ => rfl, fun h => c10 (h.resolve_right (by decide))⟩ _ (by simp only [e7])
    apply RelH.op2
    · intro L f u K hN hS hK
      simp only [puts, Act.put, List.setIfInBounds_toArray, List.set_cons_zero, List.set_cons_succ, upd, Nat.reduceEqDiff, ↓reduceIte, if_true, if_false] at hK ⊢
      have HS9 := Lib.hid hS
      obtain ⟨qB, c0, c1, c2, c3, c4, c5, c6, c7, c8, c9, c10⟩ := hS
      have e8 := c8 (hN.out.2 8 (by decide +kernel))
      clear c0 c1 c2 c3 c4 c5 c6 c7 c8 c9 c10
      go_simp
      obtain ⟨qB, c0, c1, c2, c3, c4, c5, c6, c7, c8, c9, c10⟩ := HS9.out
      exact hK.out _ _ ⟨qB, fun h => c0 (h.resolve_right (by decide)), fun h t0 => c1 (h.resolve_right (by decide)) (fun z => t0 (.inl z)), fun h => c2 (h.resolve_right (by decide)), fun h t0 => c3 (h.resolve_right (by decide)) (fun z => t0 (.inl z)), fun h => c4 (h.resolve_right (by decide)), fun h => c5 (h.resolve_right (by decide)), fun h => c6 (h.resolve_right (by decide)), fun h => c7 (h.resolve_right (by decide)), fun h => c8 (h.resolve_right (by decide)), fun h => c9 (h.resolve_right (by decide)), fun _ => rfl⟩ _ (by simp only [e8])
    exact RelH.done
  intro L f V0 hL hS
  simp only [puts, Act.put, List.setIfInBounds_toArray, List.set_cons_zero, List.set_cons_succ]
  obtain ⟨qB, c0, c1, c2, c3, c4, c5, c6, c7, c8, c9, c10⟩ := hS
  clear B
  have B := qB; clear qB
  have e0 := c0 (hL 0 (by decide))
  have e2 := c2 (hL 2 (by decide))
  have e4 := c4 (hL 4 (by decide))
  have e5 := c5 (hL 5 (by decide))
  have e6 := c6 (hL 6 (by decide))
  have e7 := c7 (hL 7 (by decide))
  have e8 := c8 (hL 8 (by decide))
  have e9 := c9 (hL 9 (by decide))
  have e10 := c10 (hL 10 (by decide))
  simp only [e9, e10]
  clear e0 e2 e4 e5 e6 e7 e8 e9 e10 c0 c1 c2 c3 c4 c5 c6 c7 c8 c9 c10 hL
  go_wp2_with fail
  refine (SKind.toS_any P cap l _ (rd_keep hr B.below) hl).mono ?_
  rintro e v4 ⟨rfl, OX, hv4⟩
  replace B := B.more hv4
  have zhv4 := hv4.size
  clear hv4
  have B_0 := B.cells 0 _ rfl
  have B_1 := B.cells 1 _ rfl
  have B_f0 := B.free 0 (by simp)
  have B_f1 := B.free 1 (by simp)
  have B_t := B.there
  go_wp2_with fail
  refine (to_at ⟨wt, ⟨A, c, s⟩⟩ _ (rd_keep hs B.below) hsl).mono ?_
  rintro e v5 ⟨rfl, ho, hv5⟩
  clear B_0 B_1 B_f0 B_f1 B_t
  replace B := B.more hv5
  replace OX := own_keep OX hv5
  have zhv5 := hv5.size
  clear hv5
  have B_0 := B.cells 0 _ rfl
  have B_1 := B.cells 1 _ rfl
  have B_f0 := B.free 0 (by simp)
  have B_f1 := B.free 1 (by simp)
  have B_t := B.there
  obtain ⟨zb, hzb⟩ : ∃ b, v4.heap.size + 3 = b := ⟨_, rfl⟩
  rw [hzb] at ho ⊢
  clear hzb
  go_wp2_with fail
  have HB0 := B.below
  have B_t6 := B.there
  have Y := Box.new B.below [.int .i64 wt, .slice (some ⟨zb, 0, none⟩) s.length s.length] 27 (g := v5.heap.size) rfl
  clear B_0 B_1 B_f0 B_f1 B_t
  replace B := (B).alloc (.cells #[.int .i64 wt, .slice (some ⟨zb, 0, none⟩) s.length s.length] 27)
  replace OX := own_keep OX (al (Below.refl _ _) (o := (.cells #[.int .i64 wt, .slice (some ⟨zb, 0, none⟩) s.length s.length] 27)))
  replace ho := RowOwn.keep ho (al (Below.refl _ _) (o := (.cells #[.int .i64 wt, .slice (some ⟨zb, 0, none⟩) s.length s.length] 27)))
  generalize (v5.alloc (.cells #[.int .i64 wt, .slice (some ⟨zb, 0, none⟩) s.length s.length] 27)) = W6 at Y B OX ho ⊢
  have B_0 := B.cells 0 _ rfl
  have B_1 := B.cells 1 _ rfl
  have B_f0 := B.free 0 (by simp)
  have B_f1 := B.free 1 (by simp)
  have B_t := B.there
  have Y_0 := Y.cells 0 _ rfl
  have Y_1 := Y.cells 1 _ rfl
  have Y_f0 := Y.free 0 (by simp)
  have Y_f1 := Y.free 1 (by simp)
  have Y_t := Y.there
  have Y_0 := Y.cells 0 _ rfl
  have Y_1 := Y.cells 1 _ rfl
  have Y_f0 := Y.free 0 (by simp)
  have Y_f1 := Y.free 1 (by simp)
  have Y_t := Y.there
  go_wp2_with fail
  refine (kept_impl _ _ l wt (some ⟨zb, 0, none⟩) s.length s i _ ⟨Rd.of_own OX, hl, hz, ho.rd, hsl⟩).mono ?_
  rintro e v7 ⟨rfl, hv7⟩
  clear B_0 B_1 B_f0 B_f1 B_t
  clear Y_0 Y_1 Y_f0 Y_f1 Y_t
  replace B := B.more hv7
  replace Y := Y.more hv7
  replace OX := own_keep OX hv7
  replace ho := RowOwn.keep ho hv7
  have zhv7 := hv7.size
  clear hv7
  have B_0 := B.cells 0 _ rfl
  have B_1 := B.cells 1 _ rfl
  have B_f0 := B.free 0 (by simp)
  have B_f1 := B.free 1 (by simp)
  have B_t := B.there
  have Y_0 := Y.cells 0 _ rfl
  have Y_1 := Y.cells 1 _ rfl
  have Y_f0 := Y.free 0 (by simp)
  have Y_f1 := Y.free 1 (by simp)
  have Y_t := Y.there
  rw [HV.out]
  go_wp2_with fail
  refine (SKind.toS_any P cap l _ (rd_keep hr B.below) hl).mono ?_
  rintro e v8 ⟨rfl, ho2, hv8⟩
  clear B_0 B_1 B_f0 B_f1 B_t
  clear Y_0 Y_1 Y_f0 Y_f1 Y_t
  replace B := B.more hv8
  replace Y := Y.more hv8
  replace OX := own_keep OX hv8
  replace ho := RowOwn.keep ho hv8
  have zhv8 := hv8.size
  clear hv8
  have B_0 := B.cells 0 _ rfl
  have B_1 := B.cells 1 _ rfl
  have B_f0 := B.free 0 (by simp)
  have B_f1 := B.free 1 (by simp)
  have B_t := B.there
  have Y_0 := Y.cells 0 _ rfl
  have Y_1 := Y.cells 1 _ rfl
  have Y_f0 := Y.free 0 (by simp)
  have Y_f1 := Y.free 1 (by simp)
  have Y_t := Y.there
  go_wp2_with fail
  refine (SKind.eqS_any _ _ _ _ l l _ (Rd.of_own OX) (Rd.of_own ho2) HN.out.1 HN.out.1).mono ?_
  rintro e v9 ⟨rfl, hv9⟩
  clear B_0 B_1 B_f0 B_f1 B_t
  clear Y_0 Y_1 Y_f0 Y_f1 Y_t
  replace B := B.more hv9
  replace Y := Y.more hv9
  replace OX := own_keep OX hv9
  replace ho := RowOwn.keep ho hv9
  have zhv9 := hv9.size
  clear hv9
  have B_0 := B.cells 0 _ rfl
  have B_1 := B.cells 1 _ rfl
  have B_f0 := B.free 0 (by simp)
  have B_f1 := B.free 1 (by simp)
  have B_t := B.there
  have Y_0 := Y.cells 0 _ rfl
  have Y_1 := Y.cells 1 _ rfl
  have Y_f0 := Y.free 0 (by simp)
  have Y_f1 := Y.free 1 (by simp)
  have Y_t := Y.there
  rw [decide_eq_true rfl]
  clear ho2 HB0
  go_wp2_with fail
  have HE := Lib.hid (fun n0 : Nat => same_yes (x := ⟨wt, ⟨some ⟨zb, 0, none⟩, s.length, s⟩⟩) (y := ⟨wt, ⟨some ⟨n0 + 3, 0, none⟩, s.length, s⟩⟩) rfl rfl)
  have HLM := Lib.hid (show s.length ≤ maxLen by unfold maxLen; omega)
  clear B_0 B_1 B_f0 B_f1 B_t
  clear Y_0 Y_1 Y_f0 Y_f1 Y_t
  obtain ⟨n0, hn0⟩ : ∃ n, n = v9.heap.size := ⟨_, rfl⟩
  refine wp_region_seq (fun L w' => Box (w.heap.size) [.int .i64 wt, .slice A s.length c] w w' ∧ Box (v5.heap.size) [.int .i64 wt, .slice (some ⟨zb, 0, none⟩) s.length s.length] w w' ∧
    RowOwn w' v4.heap.size ⟨some ⟨zb, 0, none⟩, s.length, s⟩ ∧ (¬ L 2 → w'.heap.size = n0) ∧ (L 2 → RowOwn w' n0 ⟨some ⟨n0 + 3, 0, none⟩, s.length, s⟩)) (by kernel_rfl) (by kernel_rfl) ⟨B.drew, Y.drew, ho.keep (Below.refl _ _).drew, fun _ => hn0.symm, fun h => h.elim⟩ ?_
  replace hn0 := Lib.hid hn0
  iterate 5 (
    apply SeqH.op
    · intro L uw K hN hS hK
      obtain ⟨qX, qY, qR, qz, qo⟩ := hS
      have qX_0 := qX.cells 0 _ rfl; have qX_1 := qX.cells 1 _ rfl
      have qY_0 := qY.cells 0 _ rfl; have qY_1 := qY.cells 1 _ rfl
      first
        | (go_simp; exact hK.out _ ⟨qX, qY, qR, fun a => qz (fun h => a (.inl h)), fun h => qo (h.resolve_right (by decide))⟩)
        | (have e0 := qz (hN.out.1 2 (by decide +kernel)); go_simp; go_at_call 46; (with_reducible refine (to_at ⟨wt, ⟨A, c, s⟩⟩ _ (rd_keep hs qX.below) hsl).mono ?_); rintro e uw1 ⟨rfl, ho, hv⟩; rw [e0] at ho ⊢; go_wp2_with fail; exact hK.out _ ⟨qX.more hv, qY.more hv, qR.keep hv, fun a => (a (by simp)).elim, fun _ => ho⟩)
        | (have ql := hN.out.2 2 (by decide +kernel); have qr := qo ql; go_simp; go_at_call 47; (with_reducible refine (LiqW.eq_any ⟨wt, ⟨some ⟨zb, 0, none⟩, s.length, s⟩⟩ ⟨wt, ⟨some ⟨n0 + 3, 0, none⟩, s.length, s⟩⟩ _ qR.rd qr.rd HLM.out HLM.out).mono ?_); rintro e uw1 ⟨rfl, hv⟩; rw [HE.out n0]; go_wp2_with fail; exact hK.out _ ⟨qX.more hv, qY.more hv, qR.keep hv, fun a => (a (.inl ql)).elim, fun h => qr.keep hv⟩)
    try simp only [Act.put, List.setIfInBounds_toArray, List.set_cons_zero, List.set_cons_succ])
  refine SeqH.done rfl ?_
  intro L vz hL hS
  have HB := hS.1.below
  clear hL hS B Y ho
  go_wp2
  go_ret
  exact ⟨rfl, HB⟩
set_option maxHeartbeats 4000000 in
theorem mass_law (P : Option Addr) (cap : Nat) (l : List SKind.R) (wt : Int) (A : Option Addr) (s : List Int) (c : Nat) (w : World) (hr : Rd w w.heap.size P (SKind.flat l)) (hn : l.length ≤ maxLen) (hwf : ∀ x ∈ l, x.wf) (hs : Rd w w.heap.size A (iv s)) (hm : s.length ≤ maxLen) :
    Calls Try.prog 13 #[.slice P l.length cap, .agg #[.int .i64 wt, .slice A s.length c]] w (Yes w) := by
  have hz : ∀ x ∈ l, x.f0.size ≤ maxLen := fun x hx => (hwf x hx).1
  clear hwf
  obtain ⟨p, q, hv⟩ : ∃ p q, massV l wt s = .tuple #[.int .i64 p, .bool q] := massV_form l wt s
  have HV := Lib.hid hv; clear hv
  have HN := Lib.hid (And.intro hn hm)
  clear hn hm
  go_enter Try.func13, Try.ntmps13
  go_wp2_with fail
  have B := Box.new (Below.refl _ w) [.int .i64 wt, .slice A s.length c] 54 (g := w.heap.size) rfl
  generalize (w.alloc (.cells #[.int .i64 wt, .slice A s.length c] 54)) = W1 at B ⊢
  have B_0 := B.cells 0 _ rfl
  have B_1 := B.cells 1 _ rfl
  have B_f0 := B.free 0 (by simp)
  have B_f1 := B.free 1 (by simp)
  have B_t := B.there
  go_wp2_with fail
  refine (SKind.szS_any P cap l 1048576 _ (rd_keep hr B.below) (by omega) (by omega) HN.out.1 hz).mono ?_
  rintro e v2 ⟨r, rfl, hrs, hv2⟩
  clear B_0 B_1 B_f0 B_f1 B_t
  replace B := B.more hv2
  have zhv2 := hv2.size
  clear hv2
  have B_0 := B.cells 0 _ rfl
  have B_1 := B.cells 1 _ rfl
  have B_f0 := B.free 0 (by simp)
  have B_f1 := B.free 1 (by simp)
  have B_t := B.there
  rcases hrs with rfl | ⟨hr0, hr1⟩
  · go_wp2
    go_ret
    exact ⟨rfl, B.below⟩
  have hl : l.length ≤ 1048576 := by omega
  have hrt : r ≤ 1048576 := by omega
  have B_0 := B.cells 0 _ rfl
  have B_1 := B.cells 1 _ rfl
  have B_f0 := B.free 0 (by simp)
  have B_f1 := B.free 1 (by simp)
  have B_t := B.there
  go_wp2_with fail
  refine (szL_any ⟨wt, ⟨A, c, s⟩⟩ r _ hr0 hrt HN.out.2).mono ?_
  rintro e v3 ⟨rfl, hv3⟩
  clear B_0 B_1 B_f0 B_f1 B_t
  replace B := B.more hv3
  have zhv3 := hv3.size
  clear hv3
  have B_0 := B.cells 0 _ rfl
  have B_1 := B.cells 1 _ rfl
  have B_f0 := B.free 0 (by simp)
  have B_f1 := B.free 1 (by simp)
  have B_t := B.there
  rcases szV_range (n := s.length) hr0 hrt with ⟨hb, _⟩ | ⟨hb0, hb1, hb2⟩
  · rw [hb]
    go_wp2
    go_ret
    exact ⟨rfl, B.below⟩
  have hsl : s.length ≤ 1048576 := by omega
  obtain ⟨rr, hrr⟩ : ∃ v, szV r s.length = v := ⟨_, rfl⟩
  rw [hrr] at hb0 hb1 ⊢
  clear hrr hb1 hb2
  have HLEN := Lib.hid (And.intro hr1 hrt); clear hr1 hrt
  go_wp2
  clear B_0 B_1 B_f0 B_f1 B_t
  refine wp_region_rel [23, 24, 25, 26, 27, 22, 28, 29, 6, 7] (fun L f w' => (Box (w.heap.size) [.int .i64 wt, .slice A s.length c] w w') ∧ (L 0 → f 23 = .slice P l.length cap) ∧ (L 1 → ¬ L 4 → ∃ g, f 24 = .slice (some ⟨g, 0, none⟩) l.length l.length ∧ w'.ownsRow w.heap.size 37 3 (.slice (some ⟨g, 0, none⟩) l.length l.length) l.length (SKind.flat l)) ∧ (L 2 → f 25 = .agg #[.int .i64 wt, .slice A s.length c]) ∧ (L 3 → ¬ L 4 → ∃ g, f 26 = .agg #[.int .i64 wt, .slice (some ⟨g, 0, none⟩) s.length s.length] ∧ RowOwn w' w.heap.size ⟨some ⟨g, 0, none⟩, s.length, s⟩) ∧ (L 4 → f 27 = .tuple #[.int .i64 p, .bool q]) ∧ (L 5 → f 22 = .tuple #[.int .i64 p, .bool q]) ∧ (L 6 → f 28 = .int .i64 p) ∧ (L 7 → f 29 = .bool q) ∧ (L 8 → f 6 = .int .i64 p) ∧ (L 9 → f 7 = .bool q)) (by kernel_rfl) (by kernel_rfl) (by kernel_rfl) (fun f => ⟨B.drew, fun h => h.elim, fun h => h.elim, fun h => h.elim, fun h => h.elim, fun h => h.elim, fun h => h.elim, fun h => h.elim, fun h => h.elim, fun h => h.elim, fun h => h.elim⟩) ?_ ?_
  · apply RelH.op2
    · intro L f u K hN hS hK
      simp only [puts, Act.put, List.setIfInBounds_toArray, List.set_cons_zero, List.set_cons_succ, upd, Nat.reduceEqDiff, ↓reduceIte, if_true, if_false] at hK ⊢
      have HS9 := Lib.hid hS
      obtain ⟨qB, c0, c1, c2, c3, c4, c5, c6, c7, c8, c9⟩ := hS
      clear c0 c1 c2 c3 c4 c5 c6 c7 c8 c9
      go_simp
      obtain ⟨qB, c0, c1, c2, c3, c4, c5, c6, c7, c8, c9⟩ := HS9.out
      exact hK.out _ _ ⟨qB, fun _ => rfl, fun h t0 => c1 (h.resolve_right (by decide)) (fun z => t0 (.inl z)), fun h => c2 (h.resolve_right (by decide)), fun h t0 => c3 (h.resolve_right (by decide)) (fun z => t0 (.inl z)), fun h => c4 (h.resolve_right (by decide)), fun h => c5 (h.resolve_right (by decide)), fun h => c6 (h.resolve_right (by decide)), fun h => c7 (h.resolve_right (by decide)), fun h => c8 (h.resolve_right (by decide)), fun h => c9 (h.resolve_right (by decide))⟩ _ rfl
    apply RelH.op2
    · intro L f u K hN hS hK
      simp only [puts, Act.put, List.setIfInBounds_toArray, List.set_cons_zero, List.set_cons_succ, upd, Nat.reduceEqDiff, ↓reduceIte, if_true, if_false] at hK ⊢
      have HS9 := Lib.hid hS
      obtain ⟨qB, c0, c1, c2, c3, c4, c5, c6, c7, c8, c9⟩ := hS
      have e0 := c0 (hN.out.2 0 (by decide +kernel))
      have HCON := Lib.hid (SKind.toS_any P cap l u (rd_keep hr qB.below) hl)
      clear c0 c1 c2 c3 c4 c5 c6 c7 c8 c9
      go_simp
      go_at_call 43
      (with_reducible refine HCON.out.mono ?_)
      rintro e uw1 ⟨rfl, ho, hv⟩
      go_wp2_with fail
      obtain ⟨qB, c0, c1, c2, c3, c4, c5, c6, c7, c8, c9⟩ := HS9.out
      exact hK.out _ _ ⟨qB.more hv, fun h => c0 (h.resolve_right (by decide)), fun _ _ => ⟨_, rfl, own_base ho qB.below.size⟩, fun h => c2 (h.resolve_right (by decide)), fun h t0 => (let ⟨g, e, O⟩ := (c3 (h.resolve_right (by decide)) (fun z => t0 (.inl z))); ⟨g, e, O.keep hv⟩), fun h => c4 (h.resolve_right (by decide)), fun h => c5 (h.resolve_right (by decide)), fun h => c6 (h.resolve_right (by decide)), fun h => c7 (h.resolve_right (by decide)), fun h => c8 (h.resolve_right (by decide)), fun h => c9 (h.resolve_right (by decide))⟩ _ (by simp only [e0])
    apply RelH.op2
    · intro L f u K hN hS hK
      simp only [puts, Act.put, List.setIfInBounds_toArray, List.set_cons_zero, List.set_cons_succ, upd, Nat.reduceEqDiff, ↓reduceIte, if_true, if_false] at hK ⊢
      have HS9 := Lib.hid hS
      obtain ⟨qB, c0, c1, c2, c3, c4, c5, c6, c7, c8, c9⟩ := hS
      have qB_0 := qB.cells 0 _ rfl
      have qB_1 := qB.cells 1 _ rfl
      clear c0 c1 c2 c3 c4 c5 c6 c7 c8 c9
      go_simp
      obtain ⟨qB, c0, c1, c2, c3, c4, c5, c6, c7, c8, c9⟩ := HS9.out
      exact hK.out _ _ ⟨qB, fun h => c0 (h.resolve_right (by decide)), fun h t0 => c1 (h.resolve_right (by decide)) (fun z => t0 (.inl z)), fun _ => rfl, fun h t0 => c3 (h.resolve_right (by decide)) (fun z => t0 (.inl z)), fun h => c4 (h.resolve_right (by decide)), fun h => c5 (h.resolve_right (by decide)), fun h => c6 (h.resolve_right (by decide)), fun h => c7 (h.resolve_right (by decide)), fun h => c8 (h.resolve_right (by decide)), fun h => c9 (h.resolve_right (by decide))⟩ _ rfl
    apply RelH.op2
    · intro L f u K hN hS hK
      simp only [puts, Act.put, List.setIfInBounds_toArray, List.set_cons_zero, List.set_cons_succ, upd, Nat.reduceEqDiff, ↓reduceIte, if_true, if_false] at hK ⊢
      have HS9 := Lib.hid hS
      obtain ⟨qB, c0, c1, c2, c3, c4, c5, c6, c7, c8, c9⟩ := hS
      have e2 := c2 (hN.out.2 2 (by decide +kernel))
      have HCON := Lib.hid (to_at ⟨wt, ⟨A, c, s⟩⟩ u (rd_keep hs qB.below) hsl)
      clear c0 c1 c2 c3 c4 c5 c6 c7 c8 c9
      go_simp
      go_at_call 46
      (with_reducible refine HCON.out.mono ?_)
      rintro e uw1 ⟨rfl, ho, hv⟩
      go_wp2_with fail
      obtain ⟨qB, c0, c1, c2, c3, c4, c5, c6, c7, c8, c9⟩ := HS9.out
      exact hK.out _ _ ⟨qB.more hv, fun h => c0 (h.resolve_right (by decide)), fun h t0 => (let ⟨g, e, O⟩ := (c1 (h.resolve_right (by decide)) (fun z => t0 (.inl z))); ⟨g, e, own_keep O hv⟩), fun h => c2 (h.resolve_right (by decide)), fun _ _ => ⟨_, rfl, ho.base qB.below.size⟩, fun h => c4 (h.resolve_right (by decide)), fun h => c5 (h.resolve_right (by decide)), fun h => c6 (h.resolve_right (by decide)), fun h => c7 (h.resolve_right (by decide)), fun h => c8 (h.resolve_right (by decide)), fun h => c9 (h.resolve_right (by decide))⟩ _ (by simp only [e2])
    apply RelH.op2
    · intro L f u K hN hS hK
      simp only [puts, Act.put, List.setIfInBounds_toArray, List.set_cons_zero, List.set_cons_succ, upd, Nat.reduceEqDiff, ↓reduceIte, if_true, if_false] at hK ⊢
      have HS9 := Lib.hid hS
      obtain ⟨qB, c0, c1, c2, c3, c4, c5, c6, c7, c8, c9⟩ := hS
      obtain ⟨g, e1, O⟩ := c1 (hN.out.2 1 (by decide +kernel)) (hN.out.1 4 (by decide +kernel))
      obtain ⟨g2, e3, O2⟩ := c3 (hN.out.2 3 (by decide +kernel)) (hN.out.1 4 (by decide +kernel))
      have HCON := Lib.hid (mass_spec (some ⟨g, 0, none⟩) l.length l wt (some ⟨g2, 0, none⟩) s.length s u ⟨Rd.of_own O, hl, hz, O2.rd, hsl⟩)
      clear c0 c1 c2 c3 c4 c5 c6 c7 c8 c9
      go_simp
      go_at_call 32
      (with_reducible refine HCON.out.mono ?_)
      rintro e uw1 ⟨rfl, hv⟩
      rw [HV.out]
      go_wp2_with fail
      obtain ⟨qB, c0, c1, c2, c3, c4, c5, c6, c7, c8, c9⟩ := HS9.out
      exact hK.out _ _ ⟨qB.more hv, fun h => c0 (h.resolve_right (by decide)), fun h t0 => (t0 (by simp)).elim, fun h => c2 (h.resolve_right (by decide)), fun h t0 => (t0 (by simp)).elim, fun _ => rfl, fun h => c5 (h.resolve_right (by decide)), fun h => c6 (h.resolve_right (by decide)), fun h => c7 (h.resolve_right (by decide)), fun h => c8 (h.resolve_right (by decide)), fun h => c9 (h.resolve_right (by decide))⟩ _ (by simp only [e1, e3])
    apply RelH.op2
    · intro L f u K hN hS hK
      simp only [puts, Act.put, List.setIfInBounds_toArray, List.set_cons_zero, List.set_cons_succ, upd, Nat.reduceEqDiff, ↓reduceIte, if_true, if_false] at hK ⊢
      have HS9 := Lib.hid hS
      obtain ⟨qB, c0, c1, c2, c3, c4, c5, c6, c7, c8, c9⟩ := hS
      have e4 := c4 (hN.out.2 4 (by decide +kernel))
      clear c0 c1 c2 c3 c4 c5 c6 c7 c8 c9
      go_simp
      obtain ⟨qB, c0, c1, c2, c3, c4, c5, c6, c7, c8, c9⟩ := HS9.out
      exact hK.out _ _ ⟨qB, fun h => c0 (h.resolve_right (by decide)), fun h t0 => c1 (h.resolve_right (by decide)) (fun z => t0 (.inl z)), fun h => c2 (h.resolve_right (by decide)), fun h t0 => c3 (h.resolve_right (by decide)) (fun z => t0 (.inl z)), fun h => c4 (h.resolve_right (by decide)), fun _ => rfl, fun h => c6 (h.resolve_right (by decide)), fun h => c7 (h.resolve_right (by decide)), fun h => c8 (h.resolve_right (by decide)), fun h => c9 (h.resolve_right (by decide))⟩ _ (by simp only [e4])
    apply RelH.op2
    · intro L f u K hN hS hK
      simp only [puts, Act.put, List.setIfInBounds_toArray, List.set_cons_zero, List.set_cons_succ, upd, Nat.reduceEqDiff, ↓reduceIte, if_true, if_false] at hK ⊢
      have HS9 := Lib.hid hS
      obtain ⟨qB, c0, c1, c2, c3, c4, c5, c6, c7, c8, c9⟩ := hS
      have e5 := c5 (hN.out.2 5 (by decide +kernel))
      clear c0 c1 c2 c3 c4 c5 c6 c7 c8 c9
      go_simp
      obtain ⟨qB, c0, c1, c2, c3, c4, c5, c6, c7, c8, c9⟩ := HS9.out
      exact hK.out _ _ ⟨qB, fun h => c0 (h.resolve_right (by decide)), fun h t0 => c1 (h.resolve_right (by decide)) (fun z => t0 (.inl z)), fun h => c2 (h.resolve_right (by decide)), fun h t0 => c3 (h.resolve_right (by decide)) (fun z => t0 (.inl z)), fun h => c4 (h.resolve_right (by decide)), fun h => c5 (h.resolve_right (by decide)), fun _ => rfl, fun h => c7 (h.resolve_right (by decide)), fun h => c8 (h.resolve_right (by decide)), fun h => c9 (h.resolve_right (by decide))⟩ _ (by simp only [e5])
    apply RelH.op2
    · intro L f u K hN hS hK
      simp only [puts, Act.put, List.setIfInBounds_toArray, List.set_cons_zero, List.set_cons_succ, upd, Nat.reduceEqDiff, ↓reduceIte, if_true, if_false] at hK ⊢
      have HS9 := Lib.hid hS
      obtain ⟨qB, c0, c1, c2, c3, c4, c5, c6, c7, c8, c9⟩ := hS
      have e5 := c5 (hN.out.2 5 (by decide +kernel))
      clear c0 c1 c2 c3 c4 c5 c6 c7 c8 c9
      go_simp
      obtain ⟨qB, c0, c1, c2, c3, c4, c5, c6, c7, c8, c9⟩ := HS9.out
      exact hK.out _ _ ⟨qB, fun h => c0 (h.resolve_right (by decide)), fun h t0 => c1 (h.resolve_right (by decide)) (fun z => t0 (.inl z)), fun h => c2 (h.resolve_right (by decide)), fun h t0 => c3 (h.resolve_right (by decide)) (fun z => t0 (.inl z)), fun h => c4 (h.resolve_right (by decide)), fun h => c5 (h.resolve_right (by decide)), fun h => c6 (h.resolve_right (by decide)), fun _ => rfl, fun h => c8 (h.resolve_right (by decide)), fun h => c9 (h.resolve_right (by decide))⟩ _ (by simp only [e5])
    apply RelH.op2
    · intro L f u K hN hS hK
      simp only [puts, Act.put, List.setIfInBounds_toArray, List.set_cons_zero, List.set_cons_succ, upd, Nat.reduceEqDiff, ↓reduceIte, if_true, if_false] at hK ⊢
      have HS9 := Lib.hid hS
      obtain ⟨qB, c0, c1, c2, c3, c4, c5, c6, c7, c8, c9⟩ := hS
      have e6 := c6 (hN.out.2 6 (by decide +kernel))
      clear c0 c1 c2 c3 c4 c5 c6 c7 c8 c9
      go_simp
      obtain ⟨qB, c0, c1, c2, c3, c4, c5, c6, c7, c8, c9⟩ := HS9.out
      exact hK.out _ _ ⟨qB, fun h => c0 (h.resolve_right (by decide)), fun h t0 => c1 (h.resolve_right (by decide)) (fun z => t0 (.inl z)), fun h => c2 (h.resolve_right (by decide)), fun h t0 => c3 (h.resolve_right (by decide)) (fun z => t0 (.inl z)), fun h => c4 (h.resolve_right (by decide)), fun h => c5 (h.resolve_right (by decide)), fun h => c6 (h.resolve_right (by decide)), fun h => c7 (h.resolve_right (by decide)), fun _ => rfl, fun h => c9 (h.resolve_right (by decide))⟩ _ (by simp only [e6])
    apply RelH.op2
    · intro L f u K hN hS hK
      simp only [puts, Act.put, List.setIfInBounds_toArray, List.set_cons_zero, List.set_cons_succ, upd, Nat.reduceEqDiff, ↓reduceIte, if_true, if_false] at hK ⊢
      have HS9 := Lib.hid hS
      obtain ⟨qB, c0, c1, c2, c3, c4, c5, c6, c7, c8, c9⟩ := hS
      have e7 := c7 (hN.out.2 7 (by decide +kernel))
      clear c0 c1 c2 c3 c4 c5 c6 c7 c8 c9
      go_simp
      obtain ⟨qB, c0, c1, c2, c3, c4, c5, c6, c7, c8, c9⟩ := HS9.out
      exact hK.out _ _ ⟨qB, fun h => c0 (h.resolve_right (by decide)), fun h t0 => c1 (h.resolve_right (by decide)) (fun z => t0 (.inl z)), fun h => c2 (h.resolve_right (by decide)), fun h t0 => c3 (h.resolve_right (by decide)) (fun z => t0 (.inl z)), fun h => c4 (h.resolve_right (by decide)), fun h => c5 (h.resolve_right (by decide)), fun h => c6 (h.resolve_right (by decide)), fun h => c7 (h.resolve_right (by decide)), fun h => c8 (h.resolve_right (by decide)), fun _ => rfl⟩ _ (by simp only [e7])
    exact RelH.done
  intro L f V0 hL hS
  simp only [puts, Act.put, List.setIfInBounds_toArray, List.set_cons_zero, List.set_cons_succ]
  obtain ⟨qB, c0, c1, c2, c3, c4, c5, c6, c7, c8, c9⟩ := hS
  clear B
  have B := qB; clear qB
  have e0 := c0 (hL 0 (by decide))
  have e2 := c2 (hL 2 (by decide))
  have e4 := c4 (hL 4 (by decide))
  have e5 := c5 (hL 5 (by decide))
  have e6 := c6 (hL 6 (by decide))
  have e7 := c7 (hL 7 (by decide))
  have e8 := c8 (hL 8 (by decide))
  have e9 := c9 (hL 9 (by decide))
  simp only [e8, e9]
  clear e0 e2 e4 e5 e6 e7 e8 e9 c0 c1 c2 c3 c4 c5 c6 c7 c8 c9 hL
  go_wp2_with fail
  refine (SKind.toS_any P cap l _ (rd_keep hr B.below) hl).mono ?_
  rintro e v4 ⟨rfl, OX, hv4⟩
  replace B := B.more hv4
  have zhv4 := hv4.size
  clear hv4
  have B_0 := B.cells 0 _ rfl
  have B_1 := B.cells 1 _ rfl
  have B_f0 := B.free 0 (by simp)
  have B_f1 := B.free 1 (by simp)
  have B_t := B.there
  go_wp2_with fail
  refine (to_at ⟨wt, ⟨A, c, s⟩⟩ _ (rd_keep hs B.below) hsl).mono ?_
  rintro e v5 ⟨rfl, ho, hv5⟩
  clear B_0 B_1 B_f0 B_f1 B_t
  replace B := B.more hv5
  replace OX := own_keep OX hv5
  have zhv5 := hv5.size
  clear hv5
  have B_0 := B.cells 0 _ rfl
  have B_1 := B.cells 1 _ rfl
  have B_f0 := B.free 0 (by simp)
  have B_f1 := B.free 1 (by simp)
  have B_t := B.there
  obtain ⟨zb, hzb⟩ : ∃ b, v4.heap.size + 3 = b := ⟨_, rfl⟩
  rw [hzb] at ho ⊢
  clear hzb
  go_wp2_with fail
  have HB0 := B.below
  have B_t6 := B.there
  have Y := Box.new B.below [.int .i64 wt, .slice (some ⟨zb, 0, none⟩) s.length s.length] 27 (g := v5.heap.size) rfl
  clear B_0 B_1 B_f0 B_f1 B_t
  replace B := (B).alloc (.cells #[.int .i64 wt, .slice (some ⟨zb, 0, none⟩) s.length s.length] 27)
  replace OX := own_keep OX (al (Below.refl _ _) (o := (.cells #[.int .i64 wt, .slice (some ⟨zb, 0, none⟩) s.length s.length] 27)))
  replace ho := RowOwn.keep ho (al (Below.refl _ _) (o := (.cells #[.int .i64 wt, .slice (some ⟨zb, 0, none⟩) s.length s.length] 27)))
  generalize (v5.alloc (.cells #[.int .i64 wt, .slice (some ⟨zb, 0, none⟩) s.length s.length] 27)) = W6 at Y B OX ho ⊢
  have B_0 := B.cells 0 _ rfl
  have B_1 := B.cells 1 _ rfl
  have B_f0 := B.free 0 (by simp)
  have B_f1 := B.free 1 (by simp)
  have B_t := B.there
  have Y_0 := Y.cells 0 _ rfl
  have Y_1 := Y.cells 1 _ rfl
  have Y_f0 := Y.free 0 (by simp)
  have Y_f1 := Y.free 1 (by simp)
  have Y_t := Y.there
  have Y_0 := Y.cells 0 _ rfl
  have Y_1 := Y.cells 1 _ rfl
  have Y_f0 := Y.free 0 (by simp)
  have Y_f1 := Y.free 1 (by simp)
  have Y_t := Y.there
  go_wp2_with fail
  refine (mass_impl _ _ l wt (some ⟨zb, 0, none⟩) s.length s _ ⟨Rd.of_own OX, hl, hz, ho.rd, hsl⟩).mono ?_
  rintro e v7 ⟨rfl, hv7⟩
  clear B_0 B_1 B_f0 B_f1 B_t
  clear Y_0 Y_1 Y_f0 Y_f1 Y_t
  replace B := B.more hv7
  replace Y := Y.more hv7
  replace OX := own_keep OX hv7
  replace ho := RowOwn.keep ho hv7
  have zhv7 := hv7.size
  clear hv7
  have B_0 := B.cells 0 _ rfl
  have B_1 := B.cells 1 _ rfl
  have B_f0 := B.free 0 (by simp)
  have B_f1 := B.free 1 (by simp)
  have B_t := B.there
  have Y_0 := Y.cells 0 _ rfl
  have Y_1 := Y.cells 1 _ rfl
  have Y_f0 := Y.free 0 (by simp)
  have Y_f1 := Y.free 1 (by simp)
  have Y_t := Y.there
  rw [HV.out]
  go_wp2_with fail
  refine (SKind.toS_any P cap l _ (rd_keep hr B.below) hl).mono ?_
  rintro e v8 ⟨rfl, ho2, hv8⟩
  clear B_0 B_1 B_f0 B_f1 B_t
  clear Y_0 Y_1 Y_f0 Y_f1 Y_t
  replace B := B.more hv8
  replace Y := Y.more hv8
  replace OX := own_keep OX hv8
  replace ho := RowOwn.keep ho hv8
  have zhv8 := hv8.size
  clear hv8
  have B_0 := B.cells 0 _ rfl
  have B_1 := B.cells 1 _ rfl
  have B_f0 := B.free 0 (by simp)
  have B_f1 := B.free 1 (by simp)
  have B_t := B.there
  have Y_0 := Y.cells 0 _ rfl
  have Y_1 := Y.cells 1 _ rfl
  have Y_f0 := Y.free 0 (by simp)
  have Y_f1 := Y.free 1 (by simp)
  have Y_t := Y.there
  go_wp2_with fail
  refine (SKind.eqS_any _ _ _ _ l l _ (Rd.of_own OX) (Rd.of_own ho2) HN.out.1 HN.out.1).mono ?_
  rintro e v9 ⟨rfl, hv9⟩
  clear B_0 B_1 B_f0 B_f1 B_t
  clear Y_0 Y_1 Y_f0 Y_f1 Y_t
  replace B := B.more hv9
  replace Y := Y.more hv9
  replace OX := own_keep OX hv9
  replace ho := RowOwn.keep ho hv9
  have zhv9 := hv9.size
  clear hv9
  have B_0 := B.cells 0 _ rfl
  have B_1 := B.cells 1 _ rfl
  have B_f0 := B.free 0 (by simp)
  have B_f1 := B.free 1 (by simp)
  have B_t := B.there
  have Y_0 := Y.cells 0 _ rfl
  have Y_1 := Y.cells 1 _ rfl
  have Y_f0 := Y.free 0 (by simp)
  have Y_f1 := Y.free 1 (by simp)
  have Y_t := Y.there
  rw [decide_eq_true rfl]
  clear ho2 HB0
  go_wp2_with fail
  have HE := Lib.hid (fun n0 : Nat => same_yes (x := ⟨wt, ⟨some ⟨zb, 0, none⟩, s.length, s⟩⟩) (y := ⟨wt, ⟨some ⟨n0 + 3, 0, none⟩, s.length, s⟩⟩) rfl rfl)
  have HLM := Lib.hid (show s.length ≤ maxLen by unfold maxLen; omega)
  clear B_0 B_1 B_f0 B_f1 B_t
  clear Y_0 Y_1 Y_f0 Y_f1 Y_t
  obtain ⟨n0, hn0⟩ : ∃ n, n = v9.heap.size := ⟨_, rfl⟩
  refine wp_region_seq (fun L w' => Box (w.heap.size) [.int .i64 wt, .slice A s.length c] w w' ∧ Box (v5.heap.size) [.int .i64 wt, .slice (some ⟨zb, 0, none⟩) s.length s.length] w w' ∧
    RowOwn w' v4.heap.size ⟨some ⟨zb, 0, none⟩, s.length, s⟩ ∧ (¬ L 2 → w'.heap.size = n0) ∧ (L 2 → RowOwn w' n0 ⟨some ⟨n0 + 3, 0, none⟩, s.length, s⟩)) (by kernel_rfl) (by kernel_rfl) ⟨B.drew, Y.drew, ho.keep (Below.refl _ _).drew, fun _ => hn0.symm, fun h => h.elim⟩ ?_
  replace hn0 := Lib.hid hn0
  iterate 5 (
    apply SeqH.op
    · intro L uw K hN hS hK
      obtain ⟨qX, qY, qR, qz, qo⟩ := hS
      have qX_0 := qX.cells 0 _ rfl; have qX_1 := qX.cells 1 _ rfl
      have qY_0 := qY.cells 0 _ rfl; have qY_1 := qY.cells 1 _ rfl
      first
        | (go_simp; exact hK.out _ ⟨qX, qY, qR, fun a => qz (fun h => a (.inl h)), fun h => qo (h.resolve_right (by decide))⟩)
        | (have e0 := qz (hN.out.1 2 (by decide +kernel)); go_simp; go_at_call 46; (with_reducible refine (to_at ⟨wt, ⟨A, c, s⟩⟩ _ (rd_keep hs qX.below) hsl).mono ?_); rintro e uw1 ⟨rfl, ho, hv⟩; rw [e0] at ho ⊢; go_wp2_with fail; exact hK.out _ ⟨qX.more hv, qY.more hv, qR.keep hv, fun a => (a (by simp)).elim, fun _ => ho⟩)
        | (have ql := hN.out.2 2 (by decide +kernel); have qr := qo ql; go_simp; go_at_call 47; (with_reducible refine (LiqW.eq_any ⟨wt, ⟨some ⟨zb, 0, none⟩, s.length, s⟩⟩ ⟨wt, ⟨some ⟨n0 + 3, 0, none⟩, s.length, s⟩⟩ _ qR.rd qr.rd HLM.out HLM.out).mono ?_); rintro e uw1 ⟨rfl, hv⟩; rw [HE.out n0]; go_wp2_with fail; exact hK.out _ ⟨qX.more hv, qY.more hv, qR.keep hv, fun a => (a (.inl ql)).elim, fun h => qr.keep hv⟩)
    try simp only [Act.put, List.setIfInBounds_toArray, List.set_cons_zero, List.set_cons_succ])
  refine SeqH.done rfl ?_
  intro L vz hL hS
  have HB := hS.1.below
  clear hL hS B Y ho
  go_wp2
  go_ret
  exact ⟨rfl, HB⟩
end Go.Proofs.Ythilbpklmjpmcaa.Laws10a
