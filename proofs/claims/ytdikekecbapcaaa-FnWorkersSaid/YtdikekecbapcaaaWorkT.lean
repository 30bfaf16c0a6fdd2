/- Workers: ChangeFree, the model's and the program's. -/
import Derived.Test.YtdikekecbapcaaaWorkQ
namespace Go.Proofs.Ytdikekecbapcaaa.WorkT
open Go.RowKit Go.Proofs.Ytdikekecbapcaaa.Mem Go.Proofs.Ytdikekecbapcaaa.Base Go.Proofs.Ytdikekecbapcaaa.Within Go.Proofs.Ytdikekecbapcaaa.SWorker Go.Proofs.Ytdikekecbapcaaa.Regn Go.Proofs.Ytdikekecbapcaaa.Boxes Go.Proofs.Ytdikekecbapcaaa.Keep Go.Proofs.Ytdikekecbapcaaa.Work Go.Proofs.Ytdikekecbapcaaa.Work2 Go.Proofs.Ytdikekecbapcaaa.WorkS Go.Proofs.Ytdikekecbapcaaa.WorkG Go.Proofs.Ytdikekecbapcaaa.WorkR Go.Proofs.Ytdikekecbapcaaa.WorkI Go.Proofs.Ytdikekecbapcaaa.WorkK Go.Proofs.Ytdikekecbapcaaa.WClone Go.Proofs.Ytdikekecbapcaaa.WorkP Go.Proofs.Ytdikekecbapcaaa.WorkQ
set_option linter.unusedVariables false
set_option maxRecDepth 100000
theorem chg_no {l : List R} {id : Int} (h : find l id < 0) : chgV l id = .tuple #[.int .i64 0, .int .i64 0, .bool false] := by unfold chgV; rw [if_neg (by omega)]
theorem chg_yes {l : List R} {id b m : Int} {k : Nat} (h : find l id = k) (hb : bestN l k 0 7 = (b, m)) : chgV l id = .tuple #[.int .i64 b, .int .i64 m, .bool true] := by
  unfold chgV
  rw [if_pos (by omega), h, Int.toNat_natCast, hb]
theorem chg_form (l : List R) (id : Int) : ∃ x y q, chgV l id = .tuple #[.int .i64 x, .int .i64 y, .bool q] := by
  unfold chgV
  split
  · exact ⟨_, _, _, rfl⟩
  · exact ⟨_, _, _, rfl⟩
theorem best_more {l : List R} {i n : Nat} {s b m t : Int} (h : bestN l i s n = (b, m)) (ht : allOf (chg l i n) = t) (hlt : m < t) : bestN l i s (n + 1) = ((n : Int), t) := by
  rw [bestN_more (by rw [h, ht]; exact hlt), ht]
theorem best_less {l : List R} {i n : Nat} {s b m t : Int} (h : bestN l i s n = (b, m)) (ht : allOf (chg l i n) = t) (hlt : ¬ m < t) : bestN l i s (n + 1) = (b, m) := by
  rw [bestN_less (by rw [h, ht]; exact hlt), h]
theorem chg_at {l : List R} {k : Nat} {x : R} (f : Int) (hk : k < l.length) (hx : l[k] = x) : chg l k f = l.set k (onF x f) := by unfold chg; rw [getD_at hk, hx]
set_option maxHeartbeats 1600000 in
theorem chg_spec (P : Option Addr) (cap : Nat) (l : List R) (id : Int) (w : World) (hr : Rd w w.heap.size P (flat l)) (hn : l.length ≤ 1048576) :
    Calls Try.prog 27 #[.slice P l.length cap, .int .i64 id] w (RPost (chgV l id) w) := by
  obtain ⟨i0, hi, hz0, hz1, hz2⟩ := info_parts info_T
  have HI := Lib.hid hz2; clear hz2
  have HI1 := Lib.hid hz1; clear hz1
  have HR := Lib.hid hr; clear hr
  go_enter Try.func27, Try.ntmps27
  go_wp2_with fail
  refine (find_spec P cap l id w HR.out hn).mono ?_
  rintro e w1 ⟨rfl, HB⟩
  by_cases hf : 0 ≤ find l id
  · obtain ⟨k, hk, hlt, hid, hgood⟩ := find_ok hf
    rw [hk]
    have HK := Lib.hid hk; clear hk
    obtain ⟨b, o, rfl, hb, hcc⟩ := HR.out.at (k := k * 5) (by rw [flat_n]; omega)
    obtain ⟨x, hx⟩ : ∃ x, l[k] = x := ⟨_, rfl⟩
    have HX := Lib.hid hx; clear hx hf hid
    have HCC := Lib.hid hcc; clear hcc
    have HS := Lib.hid (good_sane hgood); clear hgood
    go_wp2
    go_loopw [8, 9, 10] (fun p q i wr => ∃ (n : Nat) (y m : Int), n ≤ 7 ∧ i = .int .i64 n ∧ p = .int .i64 y ∧ q = .int .i64 m ∧ Hid (bestN l k (-1) n = (y, m)) ∧ Below w.heap.size w wr) (fun _ _ i _ => 7 - (intOf i).toNat)
    case atStart => exact ⟨0, 0, -1, by omega, rfl, rfl, rfl, Lib.hid rfl, HB⟩
    case round =>
      clear HB
      obtain ⟨n, y, m, hn7, rfl, rfl, rfl, HBN, HB⟩ := hrel
      by_cases hlt7 : n < 7
      · have hki : (n : Int) < 7 := by omega
        have HO := Lib.hid (WClone.empty_own HB)
        have HNW := Lib.hid (show ∀ j u, (flat l)[j]? = some u → (wr.alloc (.cells #[] 50)).cell? ((⟨b, o, none⟩ : Addr).add j) = some u from fun j u hu => by rw [cell_add, (bcell (al HB (o := .cells #[] 50))).1 _ _ hb]; exact HCC.out j u hu)
        go_upto_region 9 with (at_builtin; go_must (refine wpList_append_own _ rfl _ _ 24 rfl w.heap.size 50 i0 _ 5 40 Try.underlying24 hi hz0 HI1.out HI.out rfl (by decide) _ 0 _ rfl HO.out ⟨b, o, none⟩ l.length cap (flat l) rfl (flat_n l) HNW.out (flat_one l) (by unfold maxLen; omega) (by omega) (by rw [size_alloc']; have := HB.size; omega) ?_; intro v' w9 hown1 hgrow _))
        obtain ⟨A1, c1, rfl⟩ := own_form hown1
        have O : w9.ownsRow w.heap.size 50 5 (.slice A1 l.length c1) l.length (flat l) := by simpa [flat] using hown1
        obtain ⟨q, rfl⟩ := WorkP.own_some O (by omega)
        replace HB := bl_grown (al HB (o := .cells #[] 50)) hgrow (fun k hk => own_ge HO.out k hk)
        clear hgrow hown1 HNW HO
        obtain ⟨h0, h1, h2, h3, h4⟩ := own5 O hlt HX.out
        have hq := own_lt O
        have g0 : w9.frozen? ⟨q, k * 5, none⟩ = false := O.frozenAt _
        have g1 : w9.frozen? ⟨q, k * 5 + 1, none⟩ = false := O.frozenAt _
        have g2 : w9.frozen? ⟨q, k * 5 + 2, none⟩ = false := O.frozenAt _
        have g3 : w9.frozen? ⟨q, k * 5 + 3, none⟩ = false := O.frozenAt _
        have g4 : w9.frozen? ⟨q, k * 5 + 4, none⟩ = false := O.frozenAt _
        simp only [Nat.zero_add]
        have HQ := Lib.hid (own_ge O q rfl)
        go_upto_region 12 with fail
        obtain ⟨l', hl'⟩ : ∃ l', chg l k n = l' := ⟨_, rfl⟩
        have O2 := own_keep (own_all O ((flat_set l k (onF x n) hlt).trans (by rw [← chg_at n hlt HX.out, hl']))) (al (Below.refl _ _) (o := .cells #[.int .i64 x.f0, .int .i64 x.f1, .int .i64 x.f2, .bool x.f3, .int .i64 n] 50))
        dsimp only [onF] at O2
        have HB2 := al (below_all (g := q) (i := k * 5) (v0 := .int .i64 x.f0) (v1 := .int .i64 x.f1) (v2 := .int .i64 x.f2) (v3 := .bool x.f3) (v4 := .int .i64 n) HB HQ.out) (o := .cells #[.int .i64 x.f0, .int .i64 x.f1, .int .i64 x.f2, .bool x.f3, .int .i64 n] 50)
        have hsn : Sane l' := by rw [← hl']; exact chg_sane HS.out hlt n
        have hll : l'.length = l.length := by rw [← hl', chg_len]
        have HC := Lib.hid (show ∀ (g : Int) (W : World), Rd W W.heap.size (some ⟨q, 0, none⟩) (flat l') → Calls Try.prog 76 #[.slice (some ⟨q, 0, none⟩) l.length c1, .int .i64 g] W (RPost (.int .i64 (weekSum l' g)) W) from fun g W h => by rw [← hll]; exact week_spec _ _ l' g W h hsn)
        have HSN := Lib.hid hsn; clear hsn
        have HLL := Lib.hid hll; clear hll
        have HL' := Lib.hid hl'; clear hl'
        clear h0 h1 h2 h3 h4 g0 g1 g2 g3 g4 O HB hq
        generalize ((((((w9.setCell ⟨q, k * 5, none⟩ (.int .i64 x.f0)).setCell ⟨q, k * 5 + 1, none⟩ (.int .i64 x.f1)).setCell ⟨q, k * 5 + 2, none⟩ (.int .i64 x.f2)).setCell ⟨q, k * 5 + 3, none⟩ (.bool x.f3)).setCell ⟨q, k * 5 + 4, none⟩ (.int .i64 n)).alloc (.cells #[.int .i64 x.f0, .int .i64 x.f1, .int .i64 x.f2, .bool x.f3, .int .i64 n] 50)) = V at O2 HB2 ⊢
        generalize w9.heap.size = z9
        go_wp2
        go_loopw [13, 14] (fun t j wr => ∃ (u : Nat) (s : Int), u ≤ 5 ∧ j = .int .i64 ((u : Int) + 1) ∧ t = .int .i64 s ∧ Hid (gangs l' u = s) ∧ 0 ≤ s ∧ s ≤ 4200 * u ∧ wr.ownsRow w.heap.size 50 5 (.slice (some ⟨q, 0, none⟩) l.length c1) l.length (flat l') ∧ Below w.heap.size w wr) (fun _ j _ => 6 - (intOf j).toNat)
        case atStart => exact ⟨0, 0, by omega, rfl, rfl, Lib.hid rfl, by omega, by omega, O2, HB2⟩
        case round =>
          clear O2 HB2
          obtain ⟨u, s, hu, rfl, rfl, HG, s0, s1, O, HB⟩ := hrel
          by_cases hu5 : u < 5
          · have hui : (u : Int) + 1 ≤ 5 := by omega
            go_wp2_with fail
            refine (HC.out ((u : Int) + 1) wr (Rd.of_own O)).mono ?_
            rintro e v1 ⟨rfl, hv⟩
            replace O := own_keep O hv
            replace HB := be HB hv
            clear hv
            have hb0 := weekSum_bd HSN.out ((u : Int) + 1)
            have HN := Lib.hid (show gangs l' (u + 1) = s + weekSum l' ((u : Int) + 1) by rw [gangs_snoc, HG.out])
            generalize weekSum l' ((u : Int) + 1) = r at *
            have y1 : IntKind.i64.wrap (s + r) = s + r := IntWalk.i64_in _ (by omega)
            have HBD := Lib.hid hb0; clear hb0
            go_wp2
            exact ⟨⟨u + 1, s + r, by omega, by go_num, rfl, HN, by have := HBD.out; omega, by have := HBD.out; omega, O, HB⟩, by simp [intOf]; omega⟩
          · obtain rfl : u = 5 := by omega
            have HA := Lib.hid (show allOf (chg l k n) = s by rw [HL'.out]; exact HG.out)
            clear hu5 hu
            by_cases hm : m < s
            · have HN := Lib.hid (best_more HBN.out HA.out hm)
              go_wp2
              exact ⟨⟨n + 1, n, s, by omega, by go_num, rfl, rfl, HN, HB⟩, by simp [intOf]; omega⟩
            · have hm' : decide (m < s) = false := decide_eq_false hm
              have HN := Lib.hid (best_less HBN.out HA.out hm)
              go_wp2
              exact ⟨⟨n + 1, y, m, by omega, by go_num, rfl, rfl, HN, HB⟩, by simp [intOf]; omega⟩
      · obtain rfl : n = 7 := by omega
        have HV := Lib.hid (chg_yes HK.out ((bestN_same HS.out hlt 6).trans HBN.out))
        go_wp2
        go_ret3
        exact rpost (by rw [HV.out] <;> rfl) HB
  · have HV := Lib.hid (chg_no (show find l id < 0 by omega))
    have hm : find l id = -1 := by have := find_range (l := l) (id := id); omega
    rw [hm]
    clear hm hf
    go_wp2
    go_ret3
    exact rpost (by rw [HV.out] <;> rfl) HB
set_option maxHeartbeats 1600000 in
theorem chg_impl (P : Option Addr) (cap : Nat) (l : List R) (id : Int) (w : World) (hr : Rd w w.heap.size P (flat l)) (hc : l.length ≤ cap) (hn : l.length ≤ 1048576) :
    Calls Try.prog 26 #[.slice P l.length cap, .int .i64 id] w (RPost (chgV l id) w) := by
  have HR := Lib.hid hr; clear hr
  go_enter Try.func26, Try.ntmps26
  go_wp2_with fail
  refine (find_impl P cap l id w HR.out hn).mono ?_
  rintro e w1 ⟨rfl, HB⟩
  by_cases hf : 0 ≤ find l id
  · obtain ⟨k, hk, hlt, hid, hgood⟩ := find_ok hf
    rw [findV_yes hk]
    have HK := Lib.hid hk; clear hk
    have HS := Lib.hid (good_sane hgood); clear hgood hf hid
    go_wp2_with fail
    refine (clone_any P cap l w1 ((HR.out.below HB (Nat.le_refl _)).mono HB.size) hn).mono ?_
    rintro e w2 ⟨A1, a1, rfl, O1, hv⟩
    have O2 := own_base O1 HB.size
    replace HB := be HB hv
    obtain ⟨q, rfl⟩ := WorkP.own_some O2 (by omega)
    have HQ := Lib.hid (own_ge O2 q rfl)
    clear O1 hv
    go_wp2
    go_loopw [10, 11, 24] (fun p t i wr => ∃ (n : Nat) (y m : Int) (L : List R), n ≤ 7 ∧ i = .int .i64 n ∧ p = .int .i64 y ∧ t = .int .i64 m ∧ Hid (bestN l k 0 n = (y, m)) ∧ Hid (L.length = l.length ∧ ∀ f, chg L k f = chg l k f) ∧ wr.ownsRow w.heap.size 50 5 (.slice (some ⟨q, 0, none⟩) l.length a1) l.length (flat L) ∧ Below w.heap.size w wr) (fun _ _ i _ => 7 - (intOf i).toNat)
    case atStart => exact ⟨0, 0, 0, l, by omega, rfl, rfl, rfl, Lib.hid rfl, Lib.hid ⟨rfl, fun _ => rfl⟩, O2, HB⟩
    case round =>
      clear O2 HB
      obtain ⟨n, y, m, L, hn7, rfl, rfl, rfl, HBN, HL, O, HB⟩ := hrel
      by_cases hlt7 : n < 7
      · have hki : (n : Int) < 7 := by omega
        have hkL : k < L.length := by rw [HL.out.1]; exact hlt
        obtain ⟨x, hx⟩ : ∃ x, L[k] = x := ⟨_, rfl⟩
        obtain ⟨h0, h1, h2, h3, h4⟩ := own5 O hkL hx
        have g4 : wr.frozen? ⟨q, k * 5 + 4, none⟩ = false := O.frozenAt _
        clear h0 h1 h2 h3
        obtain ⟨l', hl'⟩ : ∃ l', chg l k n = l' := ⟨_, rfl⟩
        have O2 := own_put O ((flat_free (n : Int) hkL hx).trans (by rw [← chg_at n hkL hx, HL.out.2, hl']))
        have HB2 := HB.setCell (p := ⟨q, k * 5 + 4, none⟩) HQ.out (.int .i64 n)
        have hsn : Sane l' := by rw [← hl']; exact chg_sane HS.out hlt n
        have hll : l'.length = l.length := by rw [← hl', chg_len]
        have HC := Lib.hid (show ∀ (W : World), Rd W W.heap.size (some ⟨q, 0, none⟩) (flat l') → Calls Try.prog 74 #[.slice (some ⟨q, 0, none⟩) l.length a1] W (RPost (.int .i64 (allOf l')) W) from fun W h => by rw [← hll]; exact all_impl _ _ l' W h hsn)
        have HL1 := Lib.hid (show l'.length = l.length ∧ ∀ f, chg l' k f = chg l k f from ⟨hll, fun f => by rw [← hl', chg_chg l k n f hlt]⟩)
        have HA := Lib.hid (show allOf (chg l k n) = allOf l' by rw [hl'])
        clear hsn hll hl' hkL hx
        clear HB
        go_wp2_with fail
        clear h4 g4 O
        generalize wr.setCell ⟨q, k * 5 + 4, none⟩ (.int .i64 n) = V at O2 HB2 ⊢
        refine (HC.out V (Rd.of_own O2)).mono ?_
        rintro e v1 ⟨rfl, hv⟩
        replace O2 := own_keep O2 hv
        replace HB2 := be HB2 hv
        clear hv
        generalize allOf l' = s at *
        by_cases hm : m < s
        · have HN := Lib.hid (best_more HBN.out HA.out hm)
          go_wp2
          go_roundw
          case rel => exact ⟨n + 1, n, s, l', by omega, by go_num, rfl, rfl, HN, HL1, O2, HB2⟩
          case measure => simp [intOf]; omega
        · have hm' : decide (m < s) = false := decide_eq_false hm
          have HN := Lib.hid (best_less HBN.out HA.out hm)
          go_wp2
          go_roundw
          case rel => exact ⟨n + 1, y, m, l', by omega, by go_num, rfl, rfl, HN, HL1, O2, HB2⟩
          case measure => simp [intOf]; omega
      · obtain rfl : n = 7 := by omega
        have HV := Lib.hid (chg_yes HK.out HBN.out)
        go_wp2
        go_ret3
        exact rpost (by rw [HV.out] <;> rfl) HB
  · have HV := Lib.hid (chg_no (show find l id < 0 by omega))
    have hm : find l id = -1 := by have := find_range (l := l) (id := id); omega
    rw [findV_no hm]
    clear hm hf
    go_wp2
    go_ret3
    exact rpost (by rw [HV.out] <;> rfl) HB
end Go.Proofs.Ytdikekecbapcaaa.WorkT
