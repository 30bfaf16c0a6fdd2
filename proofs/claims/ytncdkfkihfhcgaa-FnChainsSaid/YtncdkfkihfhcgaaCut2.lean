/- CutPond: the program's. -/
import Derived.Test.YtncdkfkihfhcgaaPond8
import Derived.Test.YtncdkfkihfhcgaaCut
import Derived.Deep.RegionWith
import Derived.Deep.RegionLaw
import Derived.Deep.AppendLies
import Derived.Deep.CutBlock
import Derived.Deep.Cut
import Derived.Deep.DeepCutAuto
import Derived.RegionTactic
import Derived.ChangeAlike
import Derived.BigRegion
namespace Go.Proofs.Ytncdkfkihfhcgaa.Cut2
open Go.RowKit Go.Proofs.Ytncdkfkihfhcgaa.Mem Go.Proofs.Ytncdkfkihfhcgaa.Base Go.Proofs.Ytncdkfkihfhcgaa.Within Go.Proofs.Ytncdkfkihfhcgaa.SPond Go.Proofs.Ytncdkfkihfhcgaa.Regn Go.Proofs.Ytncdkfkihfhcgaa.Boxes Go.Proofs.Ytncdkfkihfhcgaa.Pond Go.Proofs.Ytncdkfkihfhcgaa.Pond2 Go.Proofs.Ytncdkfkihfhcgaa.Pond3 Go.Proofs.Ytncdkfkihfhcgaa.Pond4 Go.Proofs.Ytncdkfkihfhcgaa.IPond Go.Proofs.Ytncdkfkihfhcgaa.IPond2 Go.Proofs.Ytncdkfkihfhcgaa.Pond6 Go.Proofs.Ytncdkfkihfhcgaa.Keep Go.Proofs.Ytncdkfkihfhcgaa.PClone Go.Proofs.Ytncdkfkihfhcgaa.Cut
set_option linter.unusedVariables false
set_option maxRecDepth 100000
theorem news_b {W w3 : World} {x : R} (hv : ∀ b o, b < (W.alloc (.cells #[.int .i64 x.f0, .int .i64 x.f1, .int .i64 x.f2, .int .i64 x.f3, .int .i64 x.f4, .int .i64 x.f5] 54)).heap.size → w3.cell? ⟨b, o, none⟩ = (W.alloc (.cells #[.int .i64 x.f0, .int .i64 x.f1, .int .i64 x.f2, .int .i64 x.f3, .int .i64 x.f4, .int .i64 x.f5] 54)).cell? ⟨b, o, none⟩) :
    ∀ j u, [Value.int .i64 x.f0, .int .i64 x.f1, .int .i64 x.f2, .int .i64 x.f3, .int .i64 x.f4, .int .i64 x.f5][j]? = some u → w3.cell? ((⟨W.heap.size, 0, none⟩ : Addr).add j) = some u := by
  intro j u hu
  have := new6 W x j u hu
  rw [cell_add, Nat.zero_add] at this ⊢
  rw [hv _ _ (by rw [size_alloc']; omega)]; exact this
theorem set_same {l : List Value} {k : Nat} {v : Value} (h : l[k]? = some v) : l.set k v = l := by
  apply List.ext_getElem?
  intro p
  rw [List.getElem?_set]
  split
  · rename_i e; subst e
    split
    · exact h.symm
    · rename_i h2; rw [List.getElem?_eq_none (by omega)] at h; cases h
  · rfl
theorem flat_set3 {l : List R} {i : Nat} {x : R} {c : Int} (hi : i < l.length) (hx : l[i] = x) : (flat l).set (i * 6 + 3) (.int .i64 c) = flat (l.set i (left x c)) := by
  have e0 := flat_0 l i hi; have e1 := flat_1 l i hi; have e2 := flat_2 l i hi; have e4 := flat_4 l i hi; have e5 := flat_5 l i hi
  rw [hx] at e0 e1 e2 e4 e5
  rw [← flat_set l i (left x c) hi]
  show _ = (((((((flat l).set (i * 6) (.int .i64 x.f0)).set (i * 6 + 1) (.int .i64 x.f1)).set (i * 6 + 2) (.int .i64 x.f2)).set (i * 6 + 3) (.int .i64 c)).set (i * 6 + 4) (.int .i64 x.f4)).set (i * 6 + 5) (.int .i64 x.f5))
  rw [set_same e0, set_same e1, set_same e2, set_same (k := i * 6 + 4) (by rw [List.getElem?_set_ne (by omega)]; exact e4), set_same (k := i * 6 + 5) (by rw [List.getElem?_set_ne (by omega)]; exact e5)]
set_option maxHeartbeats 1000000 in
theorem cut_impl (P : Option Addr) (cap : Nat) (l : List R) (id cw : Int) (w : World) (hr : Rd w w.heap.size P (flat l)) (hcap : l.length ≤ cap) (hn : l.length ≤ 1048576) :
    Calls Try.prog 19 #[.slice P l.length cap, .int .i64 id, .int .i64 cw] w (CutPost (cutL l id cw) (cutN l id cw) (cutOk l id cw) w) := by
  obtain ⟨i0, hi0, hz0, hz1, hz2⟩ := info_parts info_T
  have HI := Lib.hid hz2; clear hz2
  have HI1 := Lib.hid hz1; clear hz1
  have HR := Lib.hid hr; clear hr
  go_enter Try.func19, Try.ntmps19
  go_wp2_with fail
  refine (find_impl P cap l id w HR.out hcap hn).mono ?_
  rintro e w1 ⟨rfl, HB⟩
  by_cases h0 : 0 ≤ find l id
  · obtain ⟨i, hi, hil, _, hg⟩ := find_ok h0
    obtain ⟨x, hx⟩ : ∃ x, l[i] = x := ⟨_, rfl⟩
    obtain ⟨b, o, rfl, hb, hc⟩ := HR.out.at (k := i * 6) (by rw [flat_n]; omega)
    have hg1 := (good_all hg).1
    have hox := (good_all hg).2 i hil; rw [hx] at hox
    obtain ⟨k, hkl⟩ : ∃ k, k + 1 = l.length := ⟨l.length - 1, by omega⟩
    obtain ⟨z, hz⟩ : ∃ z, l[k].f0 = z := ⟨_, rfl⟩
    have hoz := (good_all hg).2 k (by omega)
    have hzb := okP_true hoz
    rw [hz] at hzb
    obtain ⟨z1, z2, _⟩ := hzb
    have hzc : w.cell? ⟨b, o + k * 6, none⟩ = some (.int .i64 z) := by rw [← hz]; exact hc _ _ (flat_0 l k (by omega))
    obtain ⟨h0', h1, h2, h3, h4, h5⟩ := cells6 (Below.refl _ w) hb hc hil hx
    obtain ⟨_, _, a1, a2, a3, a4, a5, a6, a7, a8, _, _, _, _⟩ := okP_true hox
    have y1 : IntKind.i64.wrap (x.f3 - 1) = x.f3 - 1 := IntWalk.i64_in _ (by omega)
    have HNO := Lib.hid (fun h => cut_no (ok_out (c := cw) hi hil hx h))
    have HNO2 := Lib.hid (fun h => ok_out (c := cw) hi hil hx h)
    have HIN := Lib.hid (fun h => ok_in (c := cw) hi hil hx h)
    have HYES := Lib.hid (fun h => cut_yes (c := cw) hi hil hx h)
    have HLAST := Lib.hid (show nextId l = z + 1 by rw [last_id hkl, hz])
    rw [findV_yes hi]; clear hi h0 hg hoz hox
    have h0'_c := ((bcell HB).1 _ _ hb).trans h0'
    have h1_c := ((bcell HB).1 _ _ hb).trans h1
    have h2_c := ((bcell HB).1 _ _ hb).trans h2
    have h3_c := ((bcell HB).1 _ _ hb).trans h3
    have h4_c := ((bcell HB).1 _ _ hb).trans h4
    have h5_c := ((bcell HB).1 _ _ hb).trans h5
    have hzc_c := ((bcell HB).1 _ _ hb).trans hzc
    go_wp2_with fail
    refine (within_any cw 1 (x.f3 - 1) _).mono ?_
    rintro e _ ⟨rfl, rfl⟩
    cases hin : inB cw 1 (x.f3 - 1)
    · go_wp2
      go_ret3
      exact cut_mk (HNO.out hin).1 (HNO.out hin).2 (HNO2.out hin) rfl (empty_own HB) (al HB)
    have hcw := of_inB hin
    have HC := Lib.hid hc; clear hc
    have y2 : IntKind.i64.wrap ((l.length : Int) - 1) = (k : Int) := (IntWalk.i64_in _ (by omega)).trans (by omega)
    have y2' : ((l.length : Int) - 1) = (k : Int) := by omega
    have y3 : IntKind.i64.wrap (z + 1) = z + 1 := IntWalk.i64_in _ (by omega)
    have y4 : IntKind.i64.wrap (x.f1 + cw) = x.f1 + cw := IntWalk.i64_in _ (by omega)
    have y5 : IntKind.i64.wrap (x.f3 - cw) = x.f3 - cw := IntWalk.i64_in _ (by omega)
    have hkk : k < l.length := by omega
    have hbs : b < w1.heap.size := Nat.lt_of_lt_of_le hb HB.size
    have hbn : b ≠ w1.heap.size := by omega
    have hbn' : w1.heap.size ≠ b := by omega
    go_upto_region 8 with fail
    have D := Box.new HB [.int .i64 (z+1), .int .i64 (x.f1+cw), .int .i64 x.f2, .int .i64 (x.f3-cw), .int .i64 x.f4, .int .i64 x.f5] 54 (g := w1.heap.size) rfl
    replace HB := be HB (al (Below.refl _ _) (o := (.cells #[.int .i64 (z+1), .int .i64 (x.f1+cw), .int .i64 x.f2, .int .i64 (x.f3-cw), .int .i64 x.f4, .int .i64 x.f5] 54)))
    generalize (w1.alloc (.cells #[.int .i64 (z+1), .int .i64 (x.f1+cw), .int .i64 x.f2, .int .i64 (x.f3-cw), .int .i64 x.f4, .int .i64 x.f5] 54)) = W2 at D HB ⊢
    clear h0'_c
    clear h1_c
    clear h2_c
    clear h3_c
    clear h4_c
    clear h5_c
    clear hzc_c
    have D_0 := D.cells 0 _ rfl
    have D_1 := D.cells 1 _ rfl
    have D_2 := D.cells 2 _ rfl
    have D_3 := D.cells 3 _ rfl
    have D_4 := D.cells 4 _ rfl
    have D_5 := D.cells 5 _ rfl
    have D_f0 := D.free 0 (by simp)
    have D_f1 := D.free 1 (by simp)
    have D_f2 := D.free 2 (by simp)
    have D_f3 := D.free 3 (by simp)
    have D_f4 := D.free 4 (by simp)
    have D_f5 := D.free 5 (by simp)
    have D_t := D.there
    have h0'_c := ((bcell D.below).1 _ _ hb).trans h0'
    have h1_c := ((bcell D.below).1 _ _ hb).trans h1
    have h2_c := ((bcell D.below).1 _ _ hb).trans h2
    have h3_c := ((bcell D.below).1 _ _ hb).trans h3
    have h4_c := ((bcell D.below).1 _ _ hb).trans h4
    have h5_c := ((bcell D.below).1 _ _ hb).trans h5
    have hzc_c := ((bcell D.below).1 _ _ hb).trans hzc
    generalize hd : w1.heap.size = d at *
    have hV := D.below.size
    have HRd0 : ∀ u, Below W2.heap.size W2 u → Calls Try.prog 42 #[.slice (some ⟨b, o, none⟩) l.length cap] u (fun e w3 => ∃ A c, e = .returned (.slice A l.length c) ∧ w3.ownsRow W2.heap.size 54 6 (.slice A l.length c) l.length (flat l) ∧ Below u.heap.size u w3 ∧ Below W2.heap.size W2 w3) :=
      fun u hu => (clone_any (some ⟨b, o, none⟩) cap l u (rd_keep HR.out (be D.below hu)) hn).mono fun e w3 ⟨A, c, h1, h2, h3⟩ => ⟨A, c, h1, own_base h2 hu.size, h3, be hu h3⟩
    have HRd := Lib.hid HRd0; clear HRd0
    go_cut [12] (fun p wx => ∃ q c, p = .slice (some ⟨q, 0, none⟩) (l ++ [right x cw (z + 1)]).length c ∧ q ≠ d ∧ wx.ownsRow w.heap.size 54 6 (.slice (some ⟨q, 0, none⟩) (l ++ [right x cw (z + 1)]).length c) (l ++ [right x cw (z + 1)]).length (flat (l ++ [right x cw (z + 1)])) ∧ Box d [.int .i64 (z + 1), .int .i64 (x.f1 + cw), .int .i64 x.f2, .int .i64 (x.f3 - cw), .int .i64 x.f4, .int .i64 x.f5] w wx ∧ d < wx.heap.size)
    case first =>
      go_region_law (first | (refine step_append_lies _ rfl (.tmp 57) (.tmp 59) 24 rfl W2.heap.size 54 i0 _ 6 48 Try.underlying24 hi0 hz0 HI1.out HI.out rfl (by decide) _ l.length (flat l) rfl (O4.alloc _) ⟨w3.heap.size, 0, none⟩ 1 1 [.int .i64 (z + 1), .int .i64 (x.f1 + cw), .int .i64 x.f2, .int .i64 (x.f3 - cw), .int .i64 x.f4, .int .i64 x.f5] rfl rfl (new6 w3 (right x cw (z + 1))) (one6 (right x cw (z + 1))) (by omega) (by unfold maxLen; omega) (by omega) (by rw [size_alloc']; omega) _ rfl ?_; intro g4 c4 w4 hown hgrow hat hlt) | (refine step_append_lies _ rfl (.tmp 57) (.tmp 59) 24 rfl W2.heap.size 54 i0 _ 6 48 Try.underlying24 hi0 hz0 HI1.out HI.out rfl (by decide) _ l.length (flat l) rfl O4 ⟨W2.heap.size, 0, none⟩ 1 1 [.int .i64 (z + 1), .int .i64 (x.f1 + cw), .int .i64 x.f2, .int .i64 (x.f3 - cw), .int .i64 x.f4, .int .i64 x.f5] rfl rfl (news_b (x := right x cw (z + 1)) (bcell hv3).1) (one6 (right x cw (z + 1))) (by omega) (by unfold maxLen; omega) (by omega) (by omega) _ rfl ?_; intro g4 c4 w4 hown hgrow hat hlt) | (go_simp; go_at_call 42; (with_reducible refine (HRd.out _ (by first | exact Below.refl _ _ | exact al (Below.refl _ _) | exact (Below.refl _ _).drew | exact (al (Below.refl _ _)).drew | exact al ((Below.refl _ _).drew))).mono ?_); rintro e w3 ⟨A3, c3, rfl, O4, hv3, hw3⟩; have D3 : Box d [.int .i64 (z + 1), .int .i64 (x.f1 + cw), .int .i64 x.f2, .int .i64 (x.f3 - cw), .int .i64 x.f4, .int .i64 x.f5] w w3 := D.more hw3; have c0 := D3.cells 0 _ rfl; have c1 := D3.cells 1 _ rfl; have c2 := D3.cells 2 _ rfl; have c4 := D3.cells 3 _ rfl; have c5 := D3.cells 4 _ rfl; have c6 := D3.cells 5 _ rfl; have hs3 := hw3.size; go_wp2_with fail))
      all_goals
        go_wp2_with fail
        go_meet
        have hL : (l ++ [right x cw (z + 1)]).length = l.length + 1 := by simp
        have hq := own_ge hown g4 (by simp [Value.ownBlock])
        have hqd : g4 ≠ d := by have := D.there; omega
        have hr : ∀ k, (Value.slice A3 l.length c3).ownBlock = some k → k ≠ d ∧ w.heap.size ≤ k := fun k hk => by have := own_ge O4 k hk; have := D.there; omega
        have D4 : Box d [.int .i64 (z + 1), .int .i64 (x.f1 + cw), .int .i64 x.f2, .int .i64 (x.f3 - cw), .int .i64 x.f4, .int .i64 x.f5] w w4 := by first | exact box_grown D3 hgrow hr | exact box_grown (D3.alloc _) hgrow hr
        have O5 := own_base hown hV
        exact ⟨g4, c4, by rw [hL], hqd, by rw [hL, flat_snoc]; exact O5, D4, D4.there⟩
    case rest =>
      obtain ⟨q, c, rfl, hqd, O, D, hdt⟩ := hcut
      clear D_0 D_1 D_2 D_3 D_4 D_5 D_f0 D_f1 D_f2 D_f3 D_f4 D_f5 D_t
      generalize hM : l ++ [right x cw (z + 1)] = M at *
      have hMl : M.length = l.length + 1 := by rw [← hM]; simp
      have hiM : i < M.length := by omega
      have hMx : M[i] = x := by subst hM; rw [List.getElem_append_left hil]; exact hx
      have hset : M.set i (left x cw) = cutRow l i x cw := by
        subst hM
        rw [List.set_append_left _ _ hil]
        unfold cutRow
        rw [HLAST.out]
      obtain ⟨h0, h1, h2, h3, h4, h5⟩ := own6 O hiM hMx
      have g3 := O.frozenAt (i * 6 + 3)
      have hgw : w.heap.size ≤ q := own_ge O q (by simp [Value.ownBlock])
      have O1 := (O.stored (i * 6 + 3) (.int .i64 cw)).1
      rw [flat_set3 hiM hMx, hset, hMl, ← cut_len l i x cw] at O1
      have D1 := D.far hgw hqd (i * 6 + 3) (.int .i64 cw)
      rw [hMl, ← cut_len l i x cw]
      have hic : i < (cutRow l i x cw).length := by rw [cut_len]; omega
      go_upto_region 10 with fail
      generalize wc.setCell ⟨q, i * 6 + 3, none⟩ (.int .i64 cw) = V at O1 D1 ⊢
      have O2 := O1; have D2 := D1
      clear O D O1 D1 h0 h1 h2 h3 h4 h5 g3 hMx hset
      have hlen : (cutRow l i x cw).length ≤ 1048576 := by rw [cut_len]; omega
      go_wp2_with fail
      refine (are_impl _ c (cutRow l i x cw) V (Rd.of_own O2) (own_cap O2) hlen).mono ?_
      rintro e V2 ⟨rfl, hv2⟩
      have O3 := own_keep O2 hv2
      have D3 := D2.more hv2
      clear O2 D2 hv2
      have e0 := D3.cells 0 _ rfl
      have hok := HIN.out hin
      cases hgc : good (cutRow l i x cw)
      · rw [hgc] at hok
        go_wp2
        go_ret3
        exact cut_mk (cut_no hok).1 (cut_no hok).2 hok rfl (empty_own D3.below) (al D3.below)
      · rw [hgc] at hok
        have HOK := Lib.hid hok; clear hok hgc
        go_wp2
        go_quiet (fail)
        go_wp2
        go_ret3
        exact cut_mk (HYES.out HOK.out).1 ((HYES.out HOK.out).2.trans HLAST.out) HOK.out rfl (own_keep O3 (Below.drewN' (Below.refl _ _) _)) (Below.drewN' D3.below _)
  · have HNO := Lib.hid (cut_no (ok_neg (c := cw) h0))
    have HNO2 := Lib.hid (ok_neg (c := cw) h0)
    rw [findV_no (find_neg h0)]
    clear h0
    go_wp2
    go_ret3
    exact cut_mk HNO.out.1 HNO.out.2 HNO2.out rfl (empty_own HB) (al HB)
end Go.Proofs.Ytncdkfkihfhcgaa.Cut2
