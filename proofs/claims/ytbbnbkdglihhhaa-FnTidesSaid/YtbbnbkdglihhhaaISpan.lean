/- The program's spans. -/
import Derived.Test.YtbbnbkdglihhhaaISea
namespace Go.Proofs.Ytbbnbkdglihhhaa.ISpan
open Go.RowKit Go.Proofs.Ytbbnbkdglihhhaa.Mem Go.Proofs.Ytbbnbkdglihhhaa.Base Go.Proofs.Ytbbnbkdglihhhaa.Within Go.Proofs.Ytbbnbkdglihhhaa.SMark Go.Proofs.Ytbbnbkdglihhhaa.Regn Go.Proofs.Ytbbnbkdglihhhaa.Boxes Go.Proofs.Ytbbnbkdglihhhaa.SInt Go.Proofs.Ytbbnbkdglihhhaa.RInt Go.Proofs.Ytbbnbkdglihhhaa.Tide Go.Proofs.Ytbbnbkdglihhhaa.Tide2 Go.Proofs.Ytbbnbkdglihhhaa.Span Go.Proofs.Ytbbnbkdglihhhaa.Sea Go.Proofs.Ytbbnbkdglihhhaa.ISea
set_option linter.unusedVariables false
set_option maxRecDepth 100000
/-- a flow in the minutes before n. -/
def flows (c : Nat → Bool) (n : Nat) : List Value := (List.range 1441).map fun j => .bool (decide (j < n) && c j)
theorem flows_len (c : Nat → Bool) (n : Nat) : (flows c n).length = 1441 := by simp [flows]
theorem flows_zero (c : Nat → Bool) : flows c 0 = List.replicate 1441 (Value.bool false) := by
  unfold flows
  apply List.ext_getElem
  · rw [List.length_map, List.length_range, List.length_replicate]
  · intro i h1 h2; rw [List.getElem_map, List.getElem_range, List.getElem_replicate]; rfl
theorem flows_set (c : Nat → Bool) (n : Nat) (h : n < 1441) : (flows c n).set n (.bool (c n)) = flows c (n + 1) := by
  apply List.ext_getElem
  · simp [flows]
  · intro i h1 h2
    rw [List.getElem_set]
    by_cases hi : n = i
    · subst hi; simp [flows]
    · rw [if_neg hi]
      simp only [flows, List.getElem_map, List.getElem_range]
      congr 2
      rw [decide_eq_decide]; omega
theorem flows_at (c : Nat → Bool) (n : Nat) (h : n < 1441) : (flows c 1441)[n]? = some (.bool (c n)) := by
  unfold flows
  rw [List.getElem?_map, List.getElem?_range h, Option.map_some, decide_eq_true h, Bool.true_and]
theorem index_flow {F : List Value} {n : Nat} {x : Bool} (hn : n < 1441) (hx : F[n]? = some (.bool x)) (w : World) :
    (Instr.index 84 (.agg F.toArray) (.int .i64 n)).run Try.prog w = .ok (.bool x) w := by
  have hag : (isAgg 4).run Try.prog w = .ok false w := by
    unfold isAgg
    rw [Sem.run_bind, run_underlying Try.underlying4 w]
    rfl
  have hs := size_run (P := Try.prog) (t := 4) (n := 1) (by kernel_rfl) w
  simp [Instr.index, asIntOf, run_underlying Try.underlying84, part, hag, hs, hx, hn, Sem.run_bind, Sem.run_pure, Result.andThen]
set_option maxHeartbeats 4000000 in
theorem spans_impl (c : Nat → Bool) (F : List Value) (hF : ∀ j, j < 1441 → F[j]? = some (.bool (c j))) (hlen : F.length = 1441) (w : World) :
    Calls Try.prog 85 #[.agg F.toArray] w (LPost (sp c 1441) w) := by
  obtain ⟨i0, hi, hz0, hz1, hz2⟩ := info_parts info_int
  have HI := Lib.hid hz2; clear hz2
  have HI1 := Lib.hid hz1; clear hz1
  have HF := Lib.hid hF; clear hF
  have HLN := Lib.hid hlen; clear hlen
  have HSZ := Lib.hid (zero_of_info info_flows).2
  go_enter Try.func85, Try.ntmps85
  have B := Box.new (Below.refl w.heap.size w) F 84 (g := w.heap.size) rfl
  have O := RInt.empty_own1 (Below.refl (w.heap.size + 1) (w.alloc (.cells F.toArray 84))) (by rw [size_alloc']; omega)
  rw [size_alloc'] at O
  have B1 := B.alloc (.cells #[] 3)
  clear B
  go_wp2
  have hc0 := fun (u : World) (hu : Box w.heap.size F w u) => (fun j v hv => by rw [Nat.zero_add]; exact hu.cells j v hv : u.rangeAt w.heap.size 0 F)
  refine wp_load_mid 84 _ rfl w.heap.size 0 rfl F _ (hc0 _ B1) Try.underlying84 rfl (by rw [HSZ.out, HLN.out]) ?_
  clear hc0
  go_wp2
  go_loopw [3, 8] (fun o i wr => ∃ (n : Nat) (M : List Int) (A : Option Addr) (a : Nat), n ≤ 1441 ∧ i = .int .i64 n ∧ o = .slice A M.length a ∧ Hid (sp c n = M) ∧ wr.ownsRow (w.heap.size + 1) 3 1 (.slice A M.length a) M.length (iv M) ∧ Box w.heap.size F w wr) (fun _ i _ => 1441 - (intOf i).toNat)
  case atStart => exact ⟨0, [], _, _, by omega, rfl, rfl, Lib.hid rfl, O, B1⟩
  case round =>
    clear O B1
    obtain ⟨n, M, A, a, hn, rfl, rfl, HL, O, B⟩ := hrel
    by_cases hlt : n < 1441
    · have hlti : (n : Int) < 1441 := by omega
      have hix := fun u => index_flow hlt (HF.out n hlt) u
      have hlen := sp_len c n
      rw [HL.out] at hlen
      cases hc : c n
      · rw [hc] at hix
        have HL1 := Lib.hid (show sp c (n + 1) = M by rw [sp, starts_no hc, stops_no hc, HL.out]; simp)
        clear hc
        go_wp2
        go_roundw
        case rel => exact ⟨n + 1, M, A, a, by omega, by go_num, rfl, HL1, O, B⟩
        case measure => simp [intOf]; omega
      · rw [hc] at hix
        rcases Nat.eq_zero_or_pos n with hz | hz
        · have q0 : ((n : Int) == 0) = true := by simp; omega
          have HS := Lib.hid (starts_first hc (.inl hz))
          have g0 : 0 ≤ n := by omega
          have hne : ¬ n = 1440 := by omega
          have HZ := Lib.hid hz; clear hz
          have wn : IntKind.i64.wrap ((n : Int) + 1) = (n : Int) + 1 := IntWalk.i64_in _ (by omega)
          by_cases hl : n = 1440
          · exact absurd hl hne
          · have q9 : ((n : Int) == 1440) = false := by simp; omega
            have p1 : n + 1 < 1441 := by omega
            have p2 : (n : Int) + 1 < 1441 := by omega
            cases hc1 : c (n + 1)
            · have es := Lib.hid (stops_last (n := n) hc (.inr hc1))
              go_wp2_with (first | (at_builtin; have hO1 := O1; go_must (refine wpList_append_own _ rfl _ _ 40 rfl (w.heap.size + 1) 3 i0 _ 1 8 Try.underlying40 hi hz0 HI1.out HI.out rfl (by decide) _ (M.length + 1) _ rfl (own_keep O1 (al (Below.refl _ _))) ⟨w9.heap.size, 0, none⟩ 1 1 [.int .i64 n] rfl rfl (cell_one_new _ _ _) (one_cell rfl) (by unfold maxLen; omega) (by omega) (by rw [size_alloc']; have := hB9.there; omega) ?_; intro vw10 w10 O2 hgrow2 _)) | (at_builtin; go_must (refine wpList_append_own _ rfl _ _ 40 rfl (w.heap.size + 1) 3 i0 _ 1 8 Try.underlying40 hi hz0 HI1.out HI.out rfl (by decide) _ (M.length) _ rfl (own_keep O (al (Below.refl _ _))) ⟨wr.heap.size, 0, none⟩ 1 1 [.int .i64 n] rfl rfl (cell_one_new _ _ _) (one_cell rfl) (by unfold maxLen; omega) (by omega) (by rw [size_alloc']; have := B.there; omega) ?_; intro vw9 w9 O1 hgrow _; have hB9 := (B.alloc (.cells #[.int .i64 n] 3)).grown hgrow (fun k hk => by have := own_ge O k hk; omega); have g1 : w9.cell? ⟨w.heap.size, n + 1, none⟩ = some (.bool false) := (hB9.cells (n + 1) _ (HF.out (n + 1) (by omega))).trans (by rw [hc1]))))
              replace B := (hB9.alloc (.cells #[.int .i64 n] 3)).grown hgrow2 (fun k hk => by have := own_ge O1 k hk; omega)
              obtain ⟨A2, c2, rfl⟩ := own_form O2
              clear hgrow hgrow2 hB9
              have HL1 := Lib.hid (show sp c (n + 1) = (M ++ [(n : Int)] ++ [(n : Int)]) by rw [sp, HS.out, es.out, HL.out]; simp)
              have O9 : w10.ownsRow (w.heap.size + 1) 3 1 (.slice A2 (M ++ [(n : Int)] ++ [(n : Int)]).length c2) (M ++ [(n : Int)] ++ [(n : Int)]).length (iv (M ++ [(n : Int)] ++ [(n : Int)])) := by
                have e : iv (M ++ [(n : Int)] ++ [(n : Int)]) = iv M ++ [.int .i64 n] ++ [.int .i64 n] := by simp [iv]
                have e2 : (M ++ [(n : Int)] ++ [(n : Int)]).length = M.length + 1 + 1 := by simp
                rw [e, e2]; exact O2
              go_wp2
              go_roundw
              case rel => exact ⟨n + 1, (M ++ [(n : Int)] ++ [(n : Int)]), A2, c2, by omega, by go_num, by simp, HL1, O9, B⟩
              case measure => simp [intOf]; omega
            · have es := Lib.hid (stops_on (n := n) hl hc1)
              go_wp2_with (at_builtin; go_must (refine wpList_append_own _ rfl _ _ 40 rfl (w.heap.size + 1) 3 i0 _ 1 8 Try.underlying40 hi hz0 HI1.out HI.out rfl (by decide) _ (M.length) _ rfl (own_keep O (al (Below.refl _ _))) ⟨wr.heap.size, 0, none⟩ 1 1 [.int .i64 n] rfl rfl (cell_one_new _ _ _) (one_cell rfl) (by unfold maxLen; omega) (by omega) (by rw [size_alloc']; have := B.there; omega) ?_; intro v' w9 O1 hgrow _; have g1 : w9.cell? ⟨w.heap.size, n + 1, none⟩ = some (.bool true) := (((B.alloc (.cells #[.int .i64 n] 3)).grown hgrow (fun k hk => by have := own_ge O k hk; omega)).cells (n + 1) _ (HF.out (n + 1) (by omega))).trans (by rw [hc1])))
              replace B := (B.alloc (.cells #[.int .i64 n] 3)).grown hgrow (fun k hk => by have := own_ge O k hk; omega)
              obtain ⟨A1, c1, rfl⟩ := own_form O1
              clear hgrow
              clear g0
              have HL1 := Lib.hid (show sp c (n + 1) = (M ++ [(n : Int)]) by rw [sp, HS.out, es.out, HL.out]; simp)
              have O9 : w9.ownsRow (w.heap.size + 1) 3 1 (.slice A1 (M ++ [(n : Int)]).length c1) (M ++ [(n : Int)]).length (iv (M ++ [(n : Int)])) := by
                have e : iv (M ++ [(n : Int)]) = (iv M ++ [.int .i64 n]) := by simp [iv]
                have e2 : (M ++ [(n : Int)]).length = M.length + 1 := by simp
                rw [e, e2]; exact O1
              go_wp2
              go_roundw
              case rel => exact ⟨n + 1, (M ++ [(n : Int)]), A1, c1, by omega, by go_num, by simp, HL1, O9, B⟩
              case measure => simp [intOf]; omega
        · obtain ⟨j, rfl⟩ : ∃ j, n = j + 1 := ⟨n - 1, by omega⟩
          have q0 : ((j : Int) + 1 == 0) = false := by simp; omega
          have q1 : IntKind.i64.wrap (j : Int) = j := IntWalk.i64_in _ (by omega)
          have q2 : j < 1441 := by omega
          have q3 : (j : Int) + 1 < 1441 := by omega
          have hix2 : ∀ u, (Instr.index 84 (.agg F.toArray) (.int .i64 ((j : Int) + 1))).run Try.prog u = .ok (.bool true) u := hix
          cases hp : c j
          · have HS := Lib.hid (starts_first (n := j + 1) hc (.inr hp))
            have g0 : wr.cell? ⟨w.heap.size, j, none⟩ = some (.bool false) := by have := B.cells j _ (HF.out j q2); rwa [hp] at this
            clear hp
            have wn : IntKind.i64.wrap (((j : Int) + 1) + 1) = ((j : Int) + 1) + 1 := IntWalk.i64_in _ (by omega)
            by_cases hl : j + 1 = 1440
            · have q9 : (((j : Int) + 1) == 1440) = true := by simp; omega
              have es := Lib.hid (stops_last (n := j + 1) hc (.inl hl))
              have hj9 : ¬ 1440 < j + 1 := by omega
              have HLL := Lib.hid hl; clear hl
              go_wp2_with (first | (at_builtin; have hO1 := O1; go_must (refine wpList_append_own _ rfl _ _ 40 rfl (w.heap.size + 1) 3 i0 _ 1 8 Try.underlying40 hi hz0 HI1.out HI.out rfl (by decide) _ (M.length + 1) _ rfl (own_keep O1 (al (Below.refl _ _))) ⟨w9.heap.size, 0, none⟩ 1 1 [.int .i64 ((j : Int) + 1)] rfl rfl (cell_one_new _ _ _) (one_cell rfl) (by unfold maxLen; omega) (by omega) (by rw [size_alloc']; have := hB9.there; omega) ?_; intro vw10 w10 O2 hgrow2 _)) | (at_builtin; go_must (refine wpList_append_own _ rfl _ _ 40 rfl (w.heap.size + 1) 3 i0 _ 1 8 Try.underlying40 hi hz0 HI1.out HI.out rfl (by decide) _ (M.length) _ rfl (own_keep O (al (Below.refl _ _))) ⟨wr.heap.size, 0, none⟩ 1 1 [.int .i64 ((j : Int) + 1)] rfl rfl (cell_one_new _ _ _) (one_cell rfl) (by unfold maxLen; omega) (by omega) (by rw [size_alloc']; have := B.there; omega) ?_; intro vw9 w9 O1 hgrow _; have hB9 := (B.alloc (.cells #[.int .i64 ((j : Int) + 1)] 3)).grown hgrow (fun k hk => by have := own_ge O k hk; omega))))
              replace B := (hB9.alloc (.cells #[.int .i64 ((j : Int) + 1)] 3)).grown hgrow2 (fun k hk => by have := own_ge O1 k hk; omega)
              obtain ⟨A2, c2, rfl⟩ := own_form O2
              clear hgrow hgrow2 hB9
              have HL1 := Lib.hid (show sp c (j + 1 + 1) = (M ++ [(((j : Int) + 1) : Int)] ++ [(((j : Int) + 1) : Int)]) by rw [sp, HS.out, es.out, HL.out]; simp)
              have O9 : w10.ownsRow (w.heap.size + 1) 3 1 (.slice A2 (M ++ [(((j : Int) + 1) : Int)] ++ [(((j : Int) + 1) : Int)]).length c2) (M ++ [(((j : Int) + 1) : Int)] ++ [(((j : Int) + 1) : Int)]).length (iv (M ++ [(((j : Int) + 1) : Int)] ++ [(((j : Int) + 1) : Int)])) := by
                have e : iv (M ++ [(((j : Int) + 1) : Int)] ++ [(((j : Int) + 1) : Int)]) = iv M ++ [.int .i64 ((j : Int) + 1)] ++ [.int .i64 ((j : Int) + 1)] := by simp [iv]
                have e2 : (M ++ [(((j : Int) + 1) : Int)] ++ [(((j : Int) + 1) : Int)]).length = M.length + 1 + 1 := by simp
                rw [e, e2]; exact O2
              go_wp2
              go_roundw
              case rel => exact ⟨j + 1 + 1, (M ++ [(((j : Int) + 1) : Int)] ++ [(((j : Int) + 1) : Int)]), A2, c2, by omega, by go_num, by simp, HL1, O9, B⟩
              case measure => simp [intOf]; omega
            · have q9 : (((j : Int) + 1) == 1440) = false := by simp; omega
              have p1 : j + 1 + 1 < 1441 := by omega
              have p2 : ((j : Int) + 1) + 1 < 1441 := by omega
              cases hc1 : c (j + 1 + 1)
              · have es := Lib.hid (stops_last (n := j + 1) hc (.inr hc1))
                go_wp2_with (first | (at_builtin; have hO1 := O1; go_must (refine wpList_append_own _ rfl _ _ 40 rfl (w.heap.size + 1) 3 i0 _ 1 8 Try.underlying40 hi hz0 HI1.out HI.out rfl (by decide) _ (M.length + 1) _ rfl (own_keep O1 (al (Below.refl _ _))) ⟨w9.heap.size, 0, none⟩ 1 1 [.int .i64 ((j : Int) + 1)] rfl rfl (cell_one_new _ _ _) (one_cell rfl) (by unfold maxLen; omega) (by omega) (by rw [size_alloc']; have := hB9.there; omega) ?_; intro vw10 w10 O2 hgrow2 _)) | (at_builtin; go_must (refine wpList_append_own _ rfl _ _ 40 rfl (w.heap.size + 1) 3 i0 _ 1 8 Try.underlying40 hi hz0 HI1.out HI.out rfl (by decide) _ (M.length) _ rfl (own_keep O (al (Below.refl _ _))) ⟨wr.heap.size, 0, none⟩ 1 1 [.int .i64 ((j : Int) + 1)] rfl rfl (cell_one_new _ _ _) (one_cell rfl) (by unfold maxLen; omega) (by omega) (by rw [size_alloc']; have := B.there; omega) ?_; intro vw9 w9 O1 hgrow _; have hB9 := (B.alloc (.cells #[.int .i64 ((j : Int) + 1)] 3)).grown hgrow (fun k hk => by have := own_ge O k hk; omega); have g1 : w9.cell? ⟨w.heap.size, j + 1 + 1, none⟩ = some (.bool false) := (hB9.cells (j + 1 + 1) _ (HF.out (j + 1 + 1) (by omega))).trans (by rw [hc1]))))
                replace B := (hB9.alloc (.cells #[.int .i64 ((j : Int) + 1)] 3)).grown hgrow2 (fun k hk => by have := own_ge O1 k hk; omega)
                obtain ⟨A2, c2, rfl⟩ := own_form O2
                clear hgrow hgrow2 hB9
                have HL1 := Lib.hid (show sp c (j + 1 + 1) = (M ++ [(((j : Int) + 1) : Int)] ++ [(((j : Int) + 1) : Int)]) by rw [sp, HS.out, es.out, HL.out]; simp)
                have O9 : w10.ownsRow (w.heap.size + 1) 3 1 (.slice A2 (M ++ [(((j : Int) + 1) : Int)] ++ [(((j : Int) + 1) : Int)]).length c2) (M ++ [(((j : Int) + 1) : Int)] ++ [(((j : Int) + 1) : Int)]).length (iv (M ++ [(((j : Int) + 1) : Int)] ++ [(((j : Int) + 1) : Int)])) := by
                  have e : iv (M ++ [(((j : Int) + 1) : Int)] ++ [(((j : Int) + 1) : Int)]) = iv M ++ [.int .i64 ((j : Int) + 1)] ++ [.int .i64 ((j : Int) + 1)] := by simp [iv]
                  have e2 : (M ++ [(((j : Int) + 1) : Int)] ++ [(((j : Int) + 1) : Int)]).length = M.length + 1 + 1 := by simp
                  rw [e, e2]; exact O2
                go_wp2
                go_roundw
                case rel => exact ⟨j + 1 + 1, (M ++ [(((j : Int) + 1) : Int)] ++ [(((j : Int) + 1) : Int)]), A2, c2, by omega, by go_num, by simp, HL1, O9, B⟩
                case measure => simp [intOf]; omega
              · have es := Lib.hid (stops_on (n := j + 1) hl hc1)
                go_wp2_with (at_builtin; go_must (refine wpList_append_own _ rfl _ _ 40 rfl (w.heap.size + 1) 3 i0 _ 1 8 Try.underlying40 hi hz0 HI1.out HI.out rfl (by decide) _ (M.length) _ rfl (own_keep O (al (Below.refl _ _))) ⟨wr.heap.size, 0, none⟩ 1 1 [.int .i64 ((j : Int) + 1)] rfl rfl (cell_one_new _ _ _) (one_cell rfl) (by unfold maxLen; omega) (by omega) (by rw [size_alloc']; have := B.there; omega) ?_; intro v' w9 O1 hgrow _; have g1 : w9.cell? ⟨w.heap.size, j + 1 + 1, none⟩ = some (.bool true) := (((B.alloc (.cells #[.int .i64 ((j : Int) + 1)] 3)).grown hgrow (fun k hk => by have := own_ge O k hk; omega)).cells (j + 1 + 1) _ (HF.out (j + 1 + 1) (by omega))).trans (by rw [hc1])))
                replace B := (B.alloc (.cells #[.int .i64 ((j : Int) + 1)] 3)).grown hgrow (fun k hk => by have := own_ge O k hk; omega)
                obtain ⟨A1, c1, rfl⟩ := own_form O1
                clear hgrow
                clear g0
                have HL1 := Lib.hid (show sp c (j + 1 + 1) = (M ++ [(((j : Int) + 1) : Int)]) by rw [sp, HS.out, es.out, HL.out]; simp)
                have O9 : w9.ownsRow (w.heap.size + 1) 3 1 (.slice A1 (M ++ [(((j : Int) + 1) : Int)]).length c1) (M ++ [(((j : Int) + 1) : Int)]).length (iv (M ++ [(((j : Int) + 1) : Int)])) := by
                  have e : iv (M ++ [(((j : Int) + 1) : Int)]) = (iv M ++ [.int .i64 ((j : Int) + 1)]) := by simp [iv]
                  have e2 : (M ++ [(((j : Int) + 1) : Int)]).length = M.length + 1 := by simp
                  rw [e, e2]; exact O1
                go_wp2
                go_roundw
                case rel => exact ⟨j + 1 + 1, (M ++ [(((j : Int) + 1) : Int)]), A1, c1, by omega, by go_num, by simp, HL1, O9, B⟩
                case measure => simp [intOf]; omega
          · have HS := Lib.hid (starts_on (n := j + 1) (by omega) hp)
            have g0 : wr.cell? ⟨w.heap.size, j, none⟩ = some (.bool true) := by have := B.cells j _ (HF.out j q2); rwa [hp] at this
            clear hp
            have wn : IntKind.i64.wrap (((j : Int) + 1) + 1) = ((j : Int) + 1) + 1 := IntWalk.i64_in _ (by omega)
            by_cases hl : j + 1 = 1440
            · have q9 : (((j : Int) + 1) == 1440) = true := by simp; omega
              have es := Lib.hid (stops_last (n := j + 1) hc (.inl hl))
              have hj9 : ¬ 1440 < j + 1 := by omega
              have HLL := Lib.hid hl; clear hl
              go_wp2_with (at_builtin; go_must (refine wpList_append_own _ rfl _ _ 40 rfl (w.heap.size + 1) 3 i0 _ 1 8 Try.underlying40 hi hz0 HI1.out HI.out rfl (by decide) _ (M.length) _ rfl (own_keep O (al (Below.refl _ _))) ⟨wr.heap.size, 0, none⟩ 1 1 [.int .i64 ((j : Int) + 1)] rfl rfl (cell_one_new _ _ _) (one_cell rfl) (by unfold maxLen; omega) (by omega) (by rw [size_alloc']; have := B.there; omega) ?_; intro v' w10 O2 hgrow _))
              replace B := (B.alloc (.cells #[.int .i64 ((j : Int) + 1)] 3)).grown hgrow (fun k hk => by have := own_ge O k hk; omega)
              obtain ⟨A2, c2, rfl⟩ := own_form O2
              clear hgrow
              have HL1 := Lib.hid (show sp c (j + 1 + 1) = (M ++ [(((j : Int) + 1) : Int)]) by rw [sp, HS.out, es.out, HL.out]; simp)
              have O9 : w10.ownsRow (w.heap.size + 1) 3 1 (.slice A2 (M ++ [(((j : Int) + 1) : Int)]).length c2) (M ++ [(((j : Int) + 1) : Int)]).length (iv (M ++ [(((j : Int) + 1) : Int)])) := by
                have e : iv (M ++ [(((j : Int) + 1) : Int)]) = ((iv M) ++ [.int .i64 ((j : Int) + 1)]) := by simp [iv]
                have e2 : (M ++ [(((j : Int) + 1) : Int)]).length = M.length + 1 := by simp
                rw [e, e2]; exact O2
              go_wp2
              go_roundw
              case rel => exact ⟨j + 1 + 1, (M ++ [(((j : Int) + 1) : Int)]), A2, c2, by omega, by go_num, by simp, HL1, O9, B⟩
              case measure => simp [intOf]; omega
            · have q9 : (((j : Int) + 1) == 1440) = false := by simp; omega
              have p1 : j + 1 + 1 < 1441 := by omega
              have p2 : ((j : Int) + 1) + 1 < 1441 := by omega
              cases hc1 : c (j + 1 + 1)
              · have es := Lib.hid (stops_last (n := j + 1) hc (.inr hc1))
                have g1 : wr.cell? ⟨w.heap.size, j + 1 + 1, none⟩ = some (.bool false) := by have := B.cells (j + 1 + 1) _ (HF.out (j + 1 + 1) (by omega)); rwa [hc1] at this
                go_wp2_with (at_builtin; go_must (refine wpList_append_own _ rfl _ _ 40 rfl (w.heap.size + 1) 3 i0 _ 1 8 Try.underlying40 hi hz0 HI1.out HI.out rfl (by decide) _ (M.length) _ rfl (own_keep O (al (Below.refl _ _))) ⟨wr.heap.size, 0, none⟩ 1 1 [.int .i64 ((j : Int) + 1)] rfl rfl (cell_one_new _ _ _) (one_cell rfl) (by unfold maxLen; omega) (by omega) (by rw [size_alloc']; have := B.there; omega) ?_; intro v' w10 O2 hgrow _))
                replace B := (B.alloc (.cells #[.int .i64 ((j : Int) + 1)] 3)).grown hgrow (fun k hk => by have := own_ge O k hk; omega)
                obtain ⟨A2, c2, rfl⟩ := own_form O2
                clear hgrow
                have HL1 := Lib.hid (show sp c (j + 1 + 1) = (M ++ [(((j : Int) + 1) : Int)]) by rw [sp, HS.out, es.out, HL.out]; simp)
                have O9 : w10.ownsRow (w.heap.size + 1) 3 1 (.slice A2 (M ++ [(((j : Int) + 1) : Int)]).length c2) (M ++ [(((j : Int) + 1) : Int)]).length (iv (M ++ [(((j : Int) + 1) : Int)])) := by
                  have e : iv (M ++ [(((j : Int) + 1) : Int)]) = ((iv M) ++ [.int .i64 ((j : Int) + 1)]) := by simp [iv]
                  have e2 : (M ++ [(((j : Int) + 1) : Int)]).length = M.length + 1 := by simp
                  rw [e, e2]; exact O2
                go_wp2
                go_roundw
                case rel => exact ⟨j + 1 + 1, (M ++ [(((j : Int) + 1) : Int)]), A2, c2, by omega, by go_num, by simp, HL1, O9, B⟩
                case measure => simp [intOf]; omega
              · have es := Lib.hid (stops_on (n := j + 1) hl hc1)
                have g1 : wr.cell? ⟨w.heap.size, j + 1 + 1, none⟩ = some (.bool true) := by have := B.cells (j + 1 + 1) _ (HF.out (j + 1 + 1) (by omega)); rwa [hc1] at this
                have HL1 := Lib.hid (show sp c (j + 1 + 1) = M by rw [sp, HS.out, es.out, HL.out]; simp)
                have O9 : wr.ownsRow (w.heap.size + 1) 3 1 (.slice A M.length a) M.length (iv M) := by
                  have e : iv M = (iv M) := by simp [iv]
                  have e2 : M.length = M.length := by simp
                  rw [e, e2]; exact O
                go_wp2
                go_roundw
                case rel => exact ⟨j + 1 + 1, M, A, a, by omega, by go_num, by simp, HL1, O9, B⟩
                case measure => simp [intOf]; omega
    · obtain rfl : n = 1441 := by omega
      go_wp2
      go_ret
      exact l_mk HL.out rfl (own_base O (by omega)) B.below
end Go.Proofs.Ytbbnbkdglihhhaa.ISpan
