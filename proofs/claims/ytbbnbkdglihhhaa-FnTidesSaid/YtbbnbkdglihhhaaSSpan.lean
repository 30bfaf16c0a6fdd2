/- The model's spans, MinutesIn, MinutesOut, FirstIn, AreaAbove. -/
import Derived.Test.YtbbnbkdglihhhaaSpan
import Derived.Test.YtbbnbkdglihhhaaRInt
namespace Go.Proofs.Ytbbnbkdglihhhaa.SSpan
open Go.RowKit Go.Proofs.Ytbbnbkdglihhhaa.Mem Go.Proofs.Ytbbnbkdglihhhaa.Base Go.Proofs.Ytbbnbkdglihhhaa.SMark Go.Proofs.Ytbbnbkdglihhhaa.Boxes Go.Proofs.Ytbbnbkdglihhhaa.SInt Go.Proofs.Ytbbnbkdglihhhaa.RInt Go.Proofs.Ytbbnbkdglihhhaa.Tide Go.Proofs.Ytbbnbkdglihhhaa.Tide2 Go.Proofs.Ytbbnbkdglihhhaa.At Go.Proofs.Ytbbnbkdglihhhaa.Flow Go.Proofs.Ytbbnbkdglihhhaa.Span
set_option linter.unusedVariables false
set_option maxRecDepth 100000
theorem newI2 (V : World) (x y : Int) : ∀ j u, ([.int .i64 x, .int .i64 y] : List Value)[j]? = some u → (V.alloc (.cells #[.int .i64 x, .int .i64 y] 3)).cell? (Addr.add ⟨V.heap.size, 0, none⟩ j) = some u := by
  intro j u hu
  have h : ∀ (w : World) (b o j : Nat), w.cell? (Addr.add ⟨b, o, none⟩ j) = w.cell? ⟨b, o + j, none⟩ := by
    intro w b o j; unfold Addr.add; split
    · rename_i h; subst h; rfl
    · rfl
  rw [h, Nat.zero_add]
  exact (Box.new (w := V) (Below.refl _ _) [.int .i64 x, .int .i64 y] 3 rfl).cells j u hu
theorem oneI2 (x y : Int) : ∀ u ∈ ([.int .i64 x, .int .i64 y] : List Value), u.oneCell' = true := by
  intro u hu; simp at hu; rcases hu with rfl | rfl <;> rfl
theorem asked_spec (P : Option Addr) (cap : Nat) (l : List R) (s p : Int) (w : World) (hr : Rd w w.heap.size P (flat l)) (hn : l.length ≤ 1048576) :
    Calls Try.prog 86 #[.slice P l.length cap, .int .i64 s, .int .i64 p] w (RPost (.bool (asked l s p)) w) := by
  go_enter Try.func86, Try.ntmps86
  go_wp2_with fail
  refine (good_spec P cap l w hr hn).mono ?_
  rintro e w1 ⟨rfl, HB⟩
  cases hg : good l
  · have HV := Lib.hid (show asked l s p = false by unfold asked; rw [hg]; rfl)
    go_wp2
    go_ret
    exact rpost (by rw [HV.out] <;> rfl) HB
  cases hs : inB s (-500) 500
  · have HV := Lib.hid (show asked l s p = false by unfold asked; rw [hs]; simp)
    go_wp2_with fail
    refine (height_spec _ _).mono ?_
    rintro e _ ⟨rfl, rfl⟩
    rw [hs]
    go_wp2
    go_ret
    exact rpost (by rw [HV.out] <;> rfl) HB
  go_wp2_with fail
  refine (height_spec _ _).mono ?_
  rintro e _ ⟨rfl, rfl⟩
  rw [hs]
  cases hp : inB p (-500) 500
  · have HV := Lib.hid (show asked l s p = false by unfold asked; rw [hp]; simp)
    go_wp2_with fail
    refine (height_spec _ _).mono ?_
    rintro e _ ⟨rfl, rfl⟩
    rw [hp]
    go_wp2
    go_ret
    exact rpost (by rw [HV.out] <;> rfl) HB
  have HV := Lib.hid (show asked l s p = true by unfold asked; rw [hg, hs, hp]; rfl)
  go_wp2_with fail
  refine (height_spec _ _).mono ?_
  rintro e _ ⟨rfl, rfl⟩
  rw [hp]
  go_wp2
  go_ret
  exact rpost (by rw [HV.out] <;> rfl) HB
set_option maxHeartbeats 1000000 in
theorem spans_spec (P : Option Addr) (cap : Nat) (l : List R) (s p f : Int) (c : Nat → Bool) (hc : ∀ n : Nat, n ≤ 1440 → (flow l s p n = f ↔ c n = true)) (w : World) (hr : Rd w w.heap.size P (flat l)) (hg : good l = true) (hs : inB s (-500) 500 = true) (hp : inB p (-500) 500 = true) :
    Calls Try.prog 87 #[.slice P l.length cap, .int .i64 s, .int .i64 p, .int .i64 f] w (LPost (sp c 1441) w) := by
  obtain ⟨i0, hi, hz0, hz1, hz2⟩ := info_parts info_int
  have HI := Lib.hid hz2; clear hz2
  have HI1 := Lib.hid hz1; clear hz1
  have HR := Lib.hid hr; clear hr
  have HC := Lib.hid hc; clear hc
  have HG := Lib.hid (And.intro hg (And.intro hs hp)); clear hg hs hp
  go_enter Try.func87, Try.ntmps87
  go_wp2
  go_loopw [9, 10] (fun o i wr => ∃ (n : Nat) (L : List Int) (A : Option Addr) (a : Nat), n ≤ 1441 ∧ i = .int .i64 n ∧ o = .slice A L.length a ∧ Hid (mo c n = L) ∧ wr.ownsRow w.heap.size 3 1 (.slice A L.length a) L.length (iv L) ∧ Below w.heap.size w wr) (fun _ i _ => 1441 - (intOf i).toNat)
  case atStart => exact ⟨0, [], _, _, by omega, rfl, rfl, Lib.hid (mo_zero c), empty_own (Below.refl _ _), al (Below.refl _ _)⟩
  case round =>
    obtain ⟨n, L, A, a, hn, rfl, rfl, HL, O, HB⟩ := hrel
    by_cases hlt : n ≤ 1440
    · have hlti : (n : Int) ≤ 1440 := by omega
      go_wp2_with fail
      refine (flow_spec P cap l s p n wr (rd_keep HR.out HB) HG.out.1 HG.out.2.1 HG.out.2.2 (by omega) (by omega)).mono ?_
      rintro e w2 ⟨rfl, hv⟩
      replace O := own_keep O hv
      replace HB := be HB hv
      clear hv
      have hcn := HC.out n hlt
      generalize flow l s p n = v at *
      cases hb : c n
      · have hne : v ≠ f := fun h => by rw [hcn.1 h] at hb; cases hb
        have hq : (v != f) = true := by simp [hne]
        have HM1 := Lib.hid ((mo_skip hb).trans HL.out)
        clear hne hcn
        go_wp2
        go_roundw
        case rel => exact ⟨n + 1, L, A, a, by omega, by go_num, rfl, HM1, O, HB⟩
        case measure => simp [intOf]; omega
      · obtain rfl : v = f := hcn.2 hb
        clear hcn
        have hlen := mo_len c n
        rw [HL.out] at hlen
        by_cases hpv : 0 < n ∧ c (n - 1) = true
        · obtain ⟨e1, e2⟩ := mo_set hlt hb hpv.1 hpv.2
          obtain ⟨M, hM⟩ : ∃ M, sp c n = M := ⟨_, rfl⟩
          rw [hM] at e1 e2
          have hL : L = M ++ [(n : Int) - 1] := by rw [← HL.out, e1]
          obtain ⟨k, hk⟩ : ∃ k, M.length = k := ⟨_, rfl⟩
          have hLk : L.length = k + 1 := by rw [hL, List.length_append, hk]; rfl
          rw [hLk] at O hlen ⊢
          obtain ⟨g, c', hA⟩ := own_some O (by omega)
          obtain ⟨rfl, rfl⟩ := hA
          have h0 : w2.cell? ⟨g, k, none⟩ = some (.int .i64 ((n : Int) - 1)) := by
            rw [O.cellAt k (by omega), hL, iv_get _ k (by rw [← hL, hLk]; omega)]
            simp [← hk]
          have g0 : w2.frozen? ⟨g, k, none⟩ = false := O.frozenAt _
          have HM1 := Lib.hid e2
          have hgg := own_ge O g (by simp [Value.ownBlock])
          have O1 : (w2.setCell ⟨g, k, none⟩ (.int .i64 n)).ownsRow w.heap.size 3 1 (.slice (some ⟨g, 0, none⟩) (M ++ [(n : Int)]).length a) (M ++ [(n : Int)]).length (iv (M ++ [(n : Int)])) := by
            have h1 := (O.stored k (.int .i64 n)).1
            have e : (iv L).set k (.int .i64 n) = iv (M ++ [(n : Int)]) := by
              rw [hL, ← hk]; unfold iv; rw [List.map_append, List.map_append, List.set_append_right _ _ (by simp)]; simp
            rw [e] at h1
            rw [List.length_append, hk]
            exact h1
          have HB1 : Below w.heap.size w (w2.setCell ⟨g, k, none⟩ (.int .i64 n)) := HB.setCell (p := ⟨g, _, none⟩) hgg _
          have q1 : IntKind.i64.wrap (k : Int) = k := IntWalk.i64_in _ (by omega)
          have q2 : IntKind.i64.wrap ((n : Int) - 1) = (n : Int) - 1 := IntWalk.i64_in _ (by omega)
          have HMk := Lib.hid (show (M ++ [(n : Int)]).length = k + 1 by rw [List.length_append, hk]; rfl)
          clear e1 e2 hL hLk hM hk O HB HL hb hpv hgg
          go_wp2
          go_roundw
          case rel => exact ⟨n + 1, M ++ [(n : Int)], some ⟨g, 0, none⟩, a, by omega, by go_num, by rw [HMk.out] <;> rfl, HM1, O1, HB1⟩
          case measure => simp [intOf]; omega
        · have h0 : n = 0 ∨ c (n - 1) = false := by
            rcases Nat.eq_zero_or_pos n with h | h
            · exact .inl h
            · right; cases h1 : c (n - 1)
              · rfl
              · exact absurd ⟨h, h1⟩ hpv
          obtain ⟨e1, e2⟩ := mo_app hlt hb h0
          have hls := sp_last h0
          obtain ⟨M, hM⟩ : ∃ M, sp c n = M := ⟨_, rfl⟩
          rw [hM] at e1 e2 hls
          obtain rfl : M = L := by rw [← HL.out, e1]
          have HM1 := Lib.hid e2
          have HLS := Lib.hid hls
          clear e1 e2 hls hM HL hpv h0 hb
          rcases Nat.eq_zero_or_pos M.length with hz | hz
          · rw [hz] at O ⊢
            have HM0 := Lib.hid hz
            clear hz hlen HLS
            have hm1 : 0 + 2 ≤ maxLen := by unfold maxLen; omega
            have hm2 : (0 + 2) * 8 ≤ 140737488355328 := by omega
            go_wp2_with (at_builtin; go_must (refine wpList_append_own _ rfl _ _ 40 rfl w.heap.size 3 i0 _ 1 8 Try.underlying40 hi hz0 HI1.out HI.out rfl (by decide) _ 0 _ rfl (own_keep O (al (Below.refl _ _))) ⟨w2.heap.size, 0, none⟩ 2 2 [.int .i64 n, .int .i64 n] rfl rfl (newI2 w2 n n) (oneI2 n n) hm1 hm2 (by rw [size_alloc']; have := HB.size; omega) ?_; intro v' w9 hown1 hgrow _))
            have hB9 := below_append HB O hgrow
            obtain ⟨A1, c1, rfl⟩ := own_form hown1
            have HO1 : w9.ownsRow w.heap.size 3 1 (.slice A1 (M ++ [(n : Int), (n : Int)]).length c1) (M ++ [(n : Int), (n : Int)]).length (iv (M ++ [(n : Int), (n : Int)])) := by
              have e : iv (M ++ [(n : Int), (n : Int)]) = iv M ++ [.int .i64 n, .int .i64 n] := by simp [iv]
              rw [e, List.length_append, HM0.out]; exact hown1
            clear hgrow hown1 HB O
            go_wp2
            go_roundw
            case rel => exact ⟨n + 1, M ++ [(n : Int), (n : Int)], A1, c1, by omega, by go_num, by rw [List.length_append, HM0.out] <;> rfl, HM1, HO1, hB9⟩
            case measure => simp [intOf]; omega
          · obtain ⟨k, hk⟩ : ∃ k, M.length = k + 1 := ⟨M.length - 1, by omega⟩
            have hm1 : (k + 1) + 2 ≤ maxLen := by unfold maxLen; omega
            have hm2 : ((k + 1) + 2) * 8 ≤ 140737488355328 := by omega
            rw [hk] at O hlen ⊢
            obtain ⟨g, c', hA⟩ := own_some O (by omega)
            obtain ⟨rfl, rfl⟩ := hA
            obtain ⟨z, hz'⟩ : ∃ z, M[k] = z := ⟨_, rfl⟩
            have h0 : w2.cell? ⟨g, k, none⟩ = some (.int .i64 z) := by
              rw [O.cellAt k (by omega), iv_get _ k (by omega), hz']
            have hne := HLS.out z (by rw [← hz']; exact List.getElem_mem _)
            have hq : (z == (n : Int) - 1) = false := by simp [hne]
            have q1 : IntKind.i64.wrap (k : Int) = k := IntWalk.i64_in _ (by omega)
            have q2 : IntKind.i64.wrap ((n : Int) - 1) = (n : Int) - 1 := IntWalk.i64_in _ (by omega)
            have hMk := Lib.hid hk
            clear hz hk hne hz' HLS
            go_wp2_with (at_builtin; go_must (refine wpList_append_own _ rfl _ _ 40 rfl w.heap.size 3 i0 _ 1 8 Try.underlying40 hi hz0 HI1.out HI.out rfl (by decide) _ (k + 1) _ rfl (own_keep O (al (Below.refl _ _))) ⟨w2.heap.size, 0, none⟩ 2 2 [.int .i64 n, .int .i64 n] rfl rfl (newI2 w2 n n) (oneI2 n n) hm1 hm2 (by rw [size_alloc']; have := HB.size; omega) ?_; intro v' w9 hown1 hgrow _))
            have hB9 := below_append HB O hgrow
            obtain ⟨A1, c1, rfl⟩ := own_form hown1
            have HO1 : w9.ownsRow w.heap.size 3 1 (.slice A1 (M ++ [(n : Int), (n : Int)]).length c1) (M ++ [(n : Int), (n : Int)]).length (iv (M ++ [(n : Int), (n : Int)])) := by
              have e : iv (M ++ [(n : Int), (n : Int)]) = iv M ++ [.int .i64 n, .int .i64 n] := by simp [iv]
              rw [e, List.length_append, hMk.out]; exact hown1
            clear hgrow hown1 HB O
            go_wp2
            go_roundw
            case rel => exact ⟨n + 1, M ++ [(n : Int), (n : Int)], A1, c1, by omega, by go_num, by rw [List.length_append, hMk.out] <;> rfl, HM1, HO1, hB9⟩
            case measure => simp [intOf]; omega
    · obtain rfl : n = 1441 := by omega
      have e := HL.out
      rw [mo_end] at e
      go_wp2
      go_ret
      exact l_mk e rfl O HB
end Go.Proofs.Ytbbnbkdglihhhaa.SSpan
