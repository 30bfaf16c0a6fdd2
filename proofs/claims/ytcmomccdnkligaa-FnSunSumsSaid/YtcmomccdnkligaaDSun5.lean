/- The draw of SunOn: a day of one of the row's own suns is drawn too. -/
import Derived.Test.YtcmomccdnkligaaDSun4
import Derived.Test.YtcmomccdnkligaaRegn3
import Derived.Laws.OwnMore
namespace Go.Proofs.Ytcmomccdnkligaa.DSun5
open Go.RowKit Go.Proofs.Ytcmomccdnkligaa.Mem Go.Proofs.Ytcmomccdnkligaa.Base Go.Proofs.Ytcmomccdnkligaa.Draw Go.Proofs.Ytcmomccdnkligaa.Boxes Go.Proofs.Ytcmomccdnkligaa.Keep Go.Proofs.Ytcmomccdnkligaa.Dr Go.Proofs.Ytcmomccdnkligaa.SSun Go.Proofs.Ytcmomccdnkligaa.SunC Go.Proofs.Ytcmomccdnkligaa.DSun Go.Proofs.Ytcmomccdnkligaa.DSun4 Go.Proofs.Ytcmomccdnkligaa.Regn
set_option linter.unusedVariables false
set_option linter.unusedSimpArgs false
set_option maxRecDepth 100000
def DN (w : World) (e : Ending) (w' : World) : Prop := ∃ (M : List R) (g c : Nat) (d : Int), M.length ≤ 25 ∧ e = .returned (.tuple #[.slice (some ⟨g, 0, none⟩) M.length c, .int .i64 d]) ∧
  w'.ownsRow w.heap.size 42 2 (.slice (some ⟨g, 0, none⟩) M.length c) M.length (flat M) ∧ Below w.heap.size w w'
set_option maxHeartbeats 3200000 in
theorem drawOn (A : Option Addr) (cap : Nat) (zs : List Int) (w : World) (h : Src w A zs) : Calls Try.prog 40 #[.slice A zs.length cap] w (DN w) := by
  have HC := Lib.hid (DSun4.cu_at h cap (p := w.heap.size) rfl)
  have HG := Lib.hid (grown_alloc w (.cells #[.slice A zs.length cap, .int .i64 0, .int .u64 0] 68) (some w.heap.size))
  go_enter Try.func40, Try.ntmps40
  go_wp2_with fail
  have C := HC.out
  have GW := HG.out
  clear HC HG h
  generalize w.alloc (.cells #[.slice A zs.length cap, .int .i64 0, .int .u64 0] 68) = v at C GW ⊢
  generalize hpp : w.heap.size = p at C GW ⊢
  have HP := Lib.hid hpp; clear hpp
  refine (suns_d p zs p 0 v C (by omega)).mono ?_
  rintro e v1 ⟨M, g, c, hl, rfl, O0, C1, G1⟩
  have zv := C.lt
  have GW1 := grown_trans GW G1
  have hg0 := own_ge O0 g (by simp [Value.ownBlock])
  have O1 := own_base O0 (base' := p) (by omega)
  clear C GW G1 O0
  by_cases hpos : 0 < M.length
  · have hd : decide ((0 : Int) < M.length) = true := decide_eq_true (by omega)
    go_wp2_with fail
    refine (one_d p zs p _ v1 3 C1 (by omega) (by omega) (by omega)).mono ?_
    rintro e v2 ⟨q, rfl, C, G2⟩
    have GW := grown_trans GW1 G2
    have O := own_grownN O1 G2 (fun k hk => by injection hk with hk; omega)
    clear C1 GW1 G2 O1
    generalize hk9 : 0 + 500 + 2 = K9 at C
    have hK9 : K9 ≤ 1000 := by omega
    clear hk9
    cases q
    · go_wp2_with fail
      refine wp_region_rel [19, 20, 21, 22, 23, 24, 25, 26, 27, 2, 3] (fun L f w' => (w'.ownsRow p 42 2 (.slice (some ⟨g, 0, none⟩) M.length c) M.length (flat M)) ∧ (w.grownBy w' (some p)) ∧ (¬ L 5 → Cu p zs p K9 w') ∧ (L 0 → f 19 = .slice (some ⟨g, 0, none⟩) M.length c) ∧ (L 1 → f 20 = .slice (some ⟨g, 0, none⟩) M.length c) ∧ (L 2 → f 21 = .pointer (some ⟨p, 0, none⟩)) ∧ (L 3 → f 22 = .slice (some ⟨g, 0, none⟩) M.length c) ∧ (L 4 → f 23 = .int .i64 M.length) ∧ (L 5 → ∃ j : Nat, f 24 = .int .i64 j ∧ j < M.length) ∧ (L 6 → ∃ j : Nat, f 25 = .pointer (some ⟨g, j * 2, none⟩) ∧ j < M.length) ∧ (L 7 → ∃ j : Nat, f 26 = .pointer (some ⟨g, j * 2, none⟩) ∧ j < M.length) ∧ (L 8 → ∃ d : Int, f 27 = .int .i64 d) ∧ (L 9 → f 2 = .slice (some ⟨g, 0, none⟩) M.length c) ∧ (L 10 → ∃ d : Int, f 3 = .int .i64 d)) (by kernel_rfl) (by kernel_rfl) (by kernel_rfl) (fun f => ⟨own_keep O (Below.refl _ _).drew, grown_more GW (Below.refl _ _).drew, fun _ => C.more (Below.refl _ _).drew, fun h => h.elim, fun h => h.elim, fun h => h.elim, fun h => h.elim, fun h => h.elim, fun h => h.elim, fun h => h.elim, fun h => h.elim, fun h => h.elim, fun h => h.elim, fun h => h.elim⟩) ?_ ?_
      · apply RelH.op2
        · intro L f u K hN hS hK
          simp only [puts, Act.put, List.setIfInBounds_toArray, List.set_cons_zero, List.set_cons_succ, upd, Nat.reduceEqDiff, ↓reduceIte, if_true, if_false] at hK ⊢
          have HS9 := Lib.hid hS
          obtain ⟨qO, qG, qC, c0, c1, c2, c3, c4, c5, c6, c7, c8, c9, c10⟩ := hS
          clear qC c0 c1 c2 c3 c4 c5 c6 c7 c8 c9 c10
          go_simp
          obtain ⟨qO, qG, qC, c0, c1, c2, c3, c4, c5, c6, c7, c8, c9, c10⟩ := HS9.out
          exact hK.out _ _ ⟨qO, qG, fun z9 => qC (fun z => z9 (.inl z)), fun _ => rfl, fun h => c1 (h.resolve_right (by decide)), fun h => c2 (h.resolve_right (by decide)), fun h => c3 (h.resolve_right (by decide)), fun h => c4 (h.resolve_right (by decide)), fun h => c5 (h.resolve_right (by decide)), fun h => c6 (h.resolve_right (by decide)), fun h => c7 (h.resolve_right (by decide)), fun h => c8 (h.resolve_right (by decide)), fun h => c9 (h.resolve_right (by decide)), fun h => c10 (h.resolve_right (by decide))⟩ _ rfl
        apply RelH.op2
        · intro L f u K hN hS hK
          simp only [puts, Act.put, List.setIfInBounds_toArray, List.set_cons_zero, List.set_cons_succ, upd, Nat.reduceEqDiff, ↓reduceIte, if_true, if_false] at hK ⊢
          have HS9 := Lib.hid hS
          obtain ⟨qO, qG, qC, c0, c1, c2, c3, c4, c5, c6, c7, c8, c9, c10⟩ := hS
          clear qC c0 c1 c2 c3 c4 c5 c6 c7 c8 c9 c10
          go_simp
          obtain ⟨qO, qG, qC, c0, c1, c2, c3, c4, c5, c6, c7, c8, c9, c10⟩ := HS9.out
          exact hK.out _ _ ⟨qO, qG, fun z9 => qC (fun z => z9 (.inl z)), fun h => c0 (h.resolve_right (by decide)), fun _ => rfl, fun h => c2 (h.resolve_right (by decide)), fun h => c3 (h.resolve_right (by decide)), fun h => c4 (h.resolve_right (by decide)), fun h => c5 (h.resolve_right (by decide)), fun h => c6 (h.resolve_right (by decide)), fun h => c7 (h.resolve_right (by decide)), fun h => c8 (h.resolve_right (by decide)), fun h => c9 (h.resolve_right (by decide)), fun h => c10 (h.resolve_right (by decide))⟩ _ rfl
        apply RelH.op2
        · intro L f u K hN hS hK
          simp only [puts, Act.put, List.setIfInBounds_toArray, List.set_cons_zero, List.set_cons_succ, upd, Nat.reduceEqDiff, ↓reduceIte, if_true, if_false] at hK ⊢
          have HS9 := Lib.hid hS
          obtain ⟨qO, qG, qC, c0, c1, c2, c3, c4, c5, c6, c7, c8, c9, c10⟩ := hS
          clear qC c0 c1 c2 c3 c4 c5 c6 c7 c8 c9 c10
          go_simp
          obtain ⟨qO, qG, qC, c0, c1, c2, c3, c4, c5, c6, c7, c8, c9, c10⟩ := HS9.out
          exact hK.out _ _ ⟨qO, qG, fun z9 => qC (fun z => z9 (.inl z)), fun h => c0 (h.resolve_right (by decide)), fun h => c1 (h.resolve_right (by decide)), fun _ => rfl, fun h => c3 (h.resolve_right (by decide)), fun h => c4 (h.resolve_right (by decide)), fun h => c5 (h.resolve_right (by decide)), fun h => c6 (h.resolve_right (by decide)), fun h => c7 (h.resolve_right (by decide)), fun h => c8 (h.resolve_right (by decide)), fun h => c9 (h.resolve_right (by decide)), fun h => c10 (h.resolve_right (by decide))⟩ _ rfl
        apply RelH.op2
        · intro L f u K hN hS hK
          simp only [puts, Act.put, List.setIfInBounds_toArray, List.set_cons_zero, List.set_cons_succ, upd, Nat.reduceEqDiff, ↓reduceIte, if_true, if_false] at hK ⊢
          have HS9 := Lib.hid hS
          obtain ⟨qO, qG, qC, c0, c1, c2, c3, c4, c5, c6, c7, c8, c9, c10⟩ := hS
          clear qC c0 c1 c2 c3 c4 c5 c6 c7 c8 c9 c10
          go_simp
          obtain ⟨qO, qG, qC, c0, c1, c2, c3, c4, c5, c6, c7, c8, c9, c10⟩ := HS9.out
          exact hK.out _ _ ⟨qO, qG, fun z9 => qC (fun z => z9 (.inl z)), fun h => c0 (h.resolve_right (by decide)), fun h => c1 (h.resolve_right (by decide)), fun h => c2 (h.resolve_right (by decide)), fun _ => rfl, fun h => c4 (h.resolve_right (by decide)), fun h => c5 (h.resolve_right (by decide)), fun h => c6 (h.resolve_right (by decide)), fun h => c7 (h.resolve_right (by decide)), fun h => c8 (h.resolve_right (by decide)), fun h => c9 (h.resolve_right (by decide)), fun h => c10 (h.resolve_right (by decide))⟩ _ rfl
        apply RelH.op2
        · intro L f u K hN hS hK
          simp only [puts, Act.put, List.setIfInBounds_toArray, List.set_cons_zero, List.set_cons_succ, upd, Nat.reduceEqDiff, ↓reduceIte, if_true, if_false] at hK ⊢
          have HS9 := Lib.hid hS
          obtain ⟨qO, qG, qC, c0, c1, c2, c3, c4, c5, c6, c7, c8, c9, c10⟩ := hS
          have e3 := c3 (hN.out.2 3 (by decide +kernel))
          clear qC c0 c1 c2 c3 c4 c5 c6 c7 c8 c9 c10
          go_simp
          obtain ⟨qO, qG, qC, c0, c1, c2, c3, c4, c5, c6, c7, c8, c9, c10⟩ := HS9.out
          exact hK.out _ _ ⟨qO, qG, fun z9 => qC (fun z => z9 (.inl z)), fun h => c0 (h.resolve_right (by decide)), fun h => c1 (h.resolve_right (by decide)), fun h => c2 (h.resolve_right (by decide)), fun h => c3 (h.resolve_right (by decide)), fun _ => rfl, fun h => c5 (h.resolve_right (by decide)), fun h => c6 (h.resolve_right (by decide)), fun h => c7 (h.resolve_right (by decide)), fun h => c8 (h.resolve_right (by decide)), fun h => c9 (h.resolve_right (by decide)), fun h => c10 (h.resolve_right (by decide))⟩ _ (by simp only [e3])
        apply RelH.op2
        · intro L f u K hN hS hK
          simp only [puts, Act.put, List.setIfInBounds_toArray, List.set_cons_zero, List.set_cons_succ, upd, Nat.reduceEqDiff, ↓reduceIte, if_true, if_false] at hK ⊢
          have HS9 := Lib.hid hS
          obtain ⟨qO, qG, qC, c0, c1, c2, c3, c4, c5, c6, c7, c8, c9, c10⟩ := hS
          have e2 := c2 (hN.out.2 2 (by decide +kernel))
          have e4 := c4 (hN.out.2 4 (by decide +kernel))
          have HCON := Lib.hid (pick_d p zs p K9 u M.length (qC (hN.out.1 5 (by decide +kernel))) (by omega) (by omega) (by omega))
          clear qC c0 c1 c2 c3 c4 c5 c6 c7 c8 c9 c10
          go_simp
          go_at_call 53
          refine HCON.out.mono ?_
          rintro e uw1 ⟨z, hz, rfl, C9, G⟩
          obtain ⟨j, rfl⟩ : ∃ j : Nat, z = j := ⟨z.toNat, by omega⟩
          have hj : j < M.length := by omega
          go_wp2_with fail
          obtain ⟨qO, qG, qC, c0, c1, c2, c3, c4, c5, c6, c7, c8, c9, c10⟩ := HS9.out
          exact hK.out _ _ ⟨own_grownN qO G (fun k hk => by injection hk with hk; omega), grown_trans qG G, fun z9 => (z9 (by simp)).elim, fun h => c0 (h.resolve_right (by decide)), fun h => c1 (h.resolve_right (by decide)), fun h => c2 (h.resolve_right (by decide)), fun h => c3 (h.resolve_right (by decide)), fun h => c4 (h.resolve_right (by decide)), fun _ => ⟨j, rfl, hj⟩, fun h => c6 (h.resolve_right (by decide)), fun h => c7 (h.resolve_right (by decide)), fun h => c8 (h.resolve_right (by decide)), fun h => c9 (h.resolve_right (by decide)), fun h => c10 (h.resolve_right (by decide))⟩ _ (by simp only [e2, e4])
        apply RelH.op2
        · intro L f u K hN hS hK
          simp only [puts, Act.put, List.setIfInBounds_toArray, List.set_cons_zero, List.set_cons_succ, upd, Nat.reduceEqDiff, ↓reduceIte, if_true, if_false] at hK ⊢
          have HS9 := Lib.hid hS
          obtain ⟨qO, qG, qC, c0, c1, c2, c3, c4, c5, c6, c7, c8, c9, c10⟩ := hS
          have e1 := c1 (hN.out.2 1 (by decide +kernel))
          obtain ⟨j, e5, hj⟩ := c5 (hN.out.2 5 (by decide +kernel))
          clear qC c0 c1 c2 c3 c4 c5 c6 c7 c8 c9 c10
          go_simp
          obtain ⟨qO, qG, qC, c0, c1, c2, c3, c4, c5, c6, c7, c8, c9, c10⟩ := HS9.out
          exact hK.out _ _ ⟨qO, qG, fun z9 => qC (fun z => z9 (.inl z)), fun h => c0 (h.resolve_right (by decide)), fun h => c1 (h.resolve_right (by decide)), fun h => c2 (h.resolve_right (by decide)), fun h => c3 (h.resolve_right (by decide)), fun h => c4 (h.resolve_right (by decide)), fun h => c5 (h.resolve_right (by decide)), fun _ => ⟨j, rfl, hj⟩, fun h => c7 (h.resolve_right (by decide)), fun h => c8 (h.resolve_right (by decide)), fun h => c9 (h.resolve_right (by decide)), fun h => c10 (h.resolve_right (by decide))⟩ _ (by simp only [e1, e5])
        apply RelH.op2
        · intro L f u K hN hS hK
          simp only [puts, Act.put, List.setIfInBounds_toArray, List.set_cons_zero, List.set_cons_succ, upd, Nat.reduceEqDiff, ↓reduceIte, if_true, if_false] at hK ⊢
          have HS9 := Lib.hid hS
          obtain ⟨qO, qG, qC, c0, c1, c2, c3, c4, c5, c6, c7, c8, c9, c10⟩ := hS
          obtain ⟨j, e6, hj⟩ := c6 (hN.out.2 6 (by decide +kernel))
          clear qC c0 c1 c2 c3 c4 c5 c6 c7 c8 c9 c10
          go_simp
          obtain ⟨qO, qG, qC, c0, c1, c2, c3, c4, c5, c6, c7, c8, c9, c10⟩ := HS9.out
          exact hK.out _ _ ⟨qO, qG, fun z9 => qC (fun z => z9 (.inl z)), fun h => c0 (h.resolve_right (by decide)), fun h => c1 (h.resolve_right (by decide)), fun h => c2 (h.resolve_right (by decide)), fun h => c3 (h.resolve_right (by decide)), fun h => c4 (h.resolve_right (by decide)), fun h => c5 (h.resolve_right (by decide)), fun h => c6 (h.resolve_right (by decide)), fun _ => ⟨j, rfl, hj⟩, fun h => c8 (h.resolve_right (by decide)), fun h => c9 (h.resolve_right (by decide)), fun h => c10 (h.resolve_right (by decide))⟩ _ (by simp only [e6])
        apply RelH.op2
        · intro L f u K hN hS hK
          simp only [puts, Act.put, List.setIfInBounds_toArray, List.set_cons_zero, List.set_cons_succ, upd, Nat.reduceEqDiff, ↓reduceIte, if_true, if_false] at hK ⊢
          have HS9 := Lib.hid hS
          obtain ⟨qO, qG, qC, c0, c1, c2, c3, c4, c5, c6, c7, c8, c9, c10⟩ := hS
          obtain ⟨j, e7, hj⟩ := c7 (hN.out.2 7 (by decide +kernel))
          have h0 : u.cell? ⟨g, j * 2, none⟩ = some (.int .i64 M[j].f0) := by rw [qO.cellAt _ (by omega)]; exact flat_0 M j hj
          clear qC c0 c1 c2 c3 c4 c5 c6 c7 c8 c9 c10
          go_simp
          obtain ⟨qO, qG, qC, c0, c1, c2, c3, c4, c5, c6, c7, c8, c9, c10⟩ := HS9.out
          exact hK.out _ _ ⟨qO, qG, fun z9 => qC (fun z => z9 (.inl z)), fun h => c0 (h.resolve_right (by decide)), fun h => c1 (h.resolve_right (by decide)), fun h => c2 (h.resolve_right (by decide)), fun h => c3 (h.resolve_right (by decide)), fun h => c4 (h.resolve_right (by decide)), fun h => c5 (h.resolve_right (by decide)), fun h => c6 (h.resolve_right (by decide)), fun h => c7 (h.resolve_right (by decide)), fun _ => ⟨M[j].f0, rfl⟩, fun h => c9 (h.resolve_right (by decide)), fun h => c10 (h.resolve_right (by decide))⟩ _ (by simp only [e7])
        apply RelH.op2
        · intro L f u K hN hS hK
          simp only [puts, Act.put, List.setIfInBounds_toArray, List.set_cons_zero, List.set_cons_succ, upd, Nat.reduceEqDiff, ↓reduceIte, if_true, if_false] at hK ⊢
          have HS9 := Lib.hid hS
          obtain ⟨qO, qG, qC, c0, c1, c2, c3, c4, c5, c6, c7, c8, c9, c10⟩ := hS
          have e0 := c0 (hN.out.2 0 (by decide +kernel))
          clear qC c0 c1 c2 c3 c4 c5 c6 c7 c8 c9 c10
          go_simp
          obtain ⟨qO, qG, qC, c0, c1, c2, c3, c4, c5, c6, c7, c8, c9, c10⟩ := HS9.out
          exact hK.out _ _ ⟨qO, qG, fun z9 => qC (fun z => z9 (.inl z)), fun h => c0 (h.resolve_right (by decide)), fun h => c1 (h.resolve_right (by decide)), fun h => c2 (h.resolve_right (by decide)), fun h => c3 (h.resolve_right (by decide)), fun h => c4 (h.resolve_right (by decide)), fun h => c5 (h.resolve_right (by decide)), fun h => c6 (h.resolve_right (by decide)), fun h => c7 (h.resolve_right (by decide)), fun h => c8 (h.resolve_right (by decide)), fun _ => rfl, fun h => c10 (h.resolve_right (by decide))⟩ _ (by simp only [e0])
        apply RelH.op2
        · intro L f u K hN hS hK
          simp only [puts, Act.put, List.setIfInBounds_toArray, List.set_cons_zero, List.set_cons_succ, upd, Nat.reduceEqDiff, ↓reduceIte, if_true, if_false] at hK ⊢
          have HS9 := Lib.hid hS
          obtain ⟨qO, qG, qC, c0, c1, c2, c3, c4, c5, c6, c7, c8, c9, c10⟩ := hS
          obtain ⟨d, e8⟩ := c8 (hN.out.2 8 (by decide +kernel))
          clear qC c0 c1 c2 c3 c4 c5 c6 c7 c8 c9 c10
          go_simp
          obtain ⟨qO, qG, qC, c0, c1, c2, c3, c4, c5, c6, c7, c8, c9, c10⟩ := HS9.out
          exact hK.out _ _ ⟨qO, qG, fun z9 => qC (fun z => z9 (.inl z)), fun h => c0 (h.resolve_right (by decide)), fun h => c1 (h.resolve_right (by decide)), fun h => c2 (h.resolve_right (by decide)), fun h => c3 (h.resolve_right (by decide)), fun h => c4 (h.resolve_right (by decide)), fun h => c5 (h.resolve_right (by decide)), fun h => c6 (h.resolve_right (by decide)), fun h => c7 (h.resolve_right (by decide)), fun h => c8 (h.resolve_right (by decide)), fun h => c9 (h.resolve_right (by decide)), fun _ => ⟨d, rfl⟩⟩ _ (by simp only [e8])
        exact RelH.done
      intro L f V0 hL hS
      simp only [puts, Act.put, List.setIfInBounds_toArray, List.set_cons_zero, List.set_cons_succ]
      obtain ⟨qO, qG, qC, c0, c1, c2, c3, c4, c5, c6, c7, c8, c9, c10⟩ := hS
      clear C O GW
      obtain ⟨d, e10⟩ := c10 (hL 10 (by decide))
      have e9 := c9 (hL 9 (by decide))
      simp only [e9, e10]
      clear e9 e10 c0 c1 c2 c3 c4 c5 c6 c7 c8 c9 c10 hL qC
      have HB := Lib.hid (below_of qG (by rw [HP.out]; exact Nat.le_refl _))
      have HO := Lib.hid (own_base qO (base' := w.heap.size) (by rw [HP.out]; exact Nat.le_refl _))
      clear qG qO
      go_wp2
      go_ret2
      exact ⟨M, g, c, d, hl, rfl, HO.out, HB.out⟩
    · go_wp2_with fail
      refine (among_d p zs p _ _ v2.heap.size 6 [0, 1, 101, 4000, 4001, -1] (C.alloc _) (by omega) (lst_at v2 _ _ rfl) (by have := C.lt; omega) (by simp) (by simp)).mono ?_
      rintro e v3 ⟨d, hd9, rfl, C2, G2⟩
      have GW2 := grown_trans (grown_trans GW (grown_alloc _ _ _)) G2
      have O2 := own_grownN (own_keep O (al (Below.refl _ _) (o := .cells [Value.int .i64 0, .int .i64 1, .int .i64 101, .int .i64 4000, .int .i64 4001, .int .i64 (-1)].toArray 3))) G2 (fun k hk => by injection hk with hk; omega)
      have HB := Lib.hid (below_of GW2 (by rw [HP.out]; exact Nat.le_refl _))
      have HO := Lib.hid (own_base O2 (base' := w.heap.size) (by rw [HP.out]; exact Nat.le_refl _))
      clear C2 G2 GW2 GW C O2 O
      go_wp2
      go_ret2
      exact ⟨M, g, c, d, hl, rfl, HO.out, HB.out⟩
  · have hd : decide ((0 : Int) < M.length) = false := decide_eq_false (by omega)
    go_wp2_with fail
    refine (among_d p zs p _ _ v1.heap.size 6 [0, 1, 101, 4000, 4001, -1] (C1.alloc _) (by omega) (lst_at v1 _ _ rfl) (by have := C1.lt; omega) (by simp) (by simp)).mono ?_
    rintro e v3 ⟨d, hd9, rfl, C2, G2⟩
    have GW2 := grown_trans (grown_trans GW1 (grown_alloc _ _ _)) G2
    have O2 := own_grownN (own_keep O1 (al (Below.refl _ _) (o := .cells [Value.int .i64 0, .int .i64 1, .int .i64 101, .int .i64 4000, .int .i64 4001, .int .i64 (-1)].toArray 3))) G2 (fun k hk => by injection hk with hk; omega)
    have HB := Lib.hid (below_of GW2 (by rw [HP.out]; exact Nat.le_refl _))
    have HO := Lib.hid (own_base O2 (base' := w.heap.size) (by rw [HP.out]; exact Nat.le_refl _))
    clear C2 G2 GW2 GW1 C1 O2 O1
    go_wp2
    go_ret2
    exact ⟨M, g, c, d, hl, rfl, HO.out, HB.out⟩
end Go.Proofs.Ytcmomccdnkligaa.DSun5
