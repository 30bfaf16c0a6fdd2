/- The model's numbers of steps to a pond, walked. -/
import Derived.Test.YtncdkfkihfhcgaaSteps
namespace Go.Proofs.Ytncdkfkihfhcgaa.Steps
open Go.RowKit Go.Proofs.Ytncdkfkihfhcgaa.Mem Go.Proofs.Ytncdkfkihfhcgaa.Base Go.Proofs.Ytncdkfkihfhcgaa.Within Go.Proofs.Ytncdkfkihfhcgaa.SPond Go.Proofs.Ytncdkfkihfhcgaa.Regn Go.Proofs.Ytncdkfkihfhcgaa.Boxes Go.Proofs.Ytncdkfkihfhcgaa.Pond Go.Proofs.Ytncdkfkihfhcgaa.Pond2 Go.Proofs.Ytncdkfkihfhcgaa.Pond3 Go.Proofs.Ytncdkfkihfhcgaa.Pond4 Go.Proofs.Ytncdkfkihfhcgaa.IPond2 Go.Proofs.Ytncdkfkihfhcgaa.SInt Go.Proofs.Ytncdkfkihfhcgaa.Keep
set_option linter.unusedVariables false
set_option maxRecDepth 100000
theorem info_int' : (Try.prog.info? 3).map (fun i => (i.zero, i.size, i.bytes)) = some (some (.int .i64 0), 1, 8) := by kernel_rfl
def StPost (l : List R) (to : Nat) (w : World) (e : Ending) (w' : World) : Prop :=
  ∃ (S : List Int), e = .returned (.slice (some ⟨w.heap.size, 0, none⟩) l.length l.length) ∧ w'.ownsRow w.heap.size 3 1 (.slice (some ⟨w.heap.size, 0, none⟩) l.length l.length) l.length (iv S) ∧ Below w.heap.size w w' ∧ K (ad l) l.length to l.length 0 l.length S
theorem own_set {w : World} {base g n c : Nat} {S : List Int} {k : Nat} {v : Int} (O : w.ownsRow base 3 1 (.slice (some ⟨g, 0, none⟩) n c) n (iv S)) : (w.setCell ⟨g, k, none⟩ (.int .i64 v)).ownsRow base 3 1 (.slice (some ⟨g, 0, none⟩) n c) n (iv (S.set k v)) := by
  have h := (O.stored k (.int .i64 v)).1
  have e : (iv S).set k (.int .i64 v) = iv (S.set k v) := by unfold iv; rw [List.map_set]
  rwa [e] at h
theorem own_get {w : World} {base g n c : Nat} {S : List Int} {k : Nat} {v : Int} (O : w.ownsRow base 3 1 (.slice (some ⟨g, 0, none⟩) n c) n (iv S)) (hk : k < n) (hS : S.length = n) (hv : sAt S k = v) : w.cell? ⟨g, k, none⟩ = some (.int .i64 v) := by
  rw [O.cellAt k (by omega), iv_get S k (by omega), sAt_get (by omega), hv]
set_option maxHeartbeats 3200000 in
theorem steps_spec (P : Option Addr) (cap : Nat) (l : List R) (to : Nat) (w : World) (hr : Rd w w.heap.size P (flat l)) (hg : good l = true) (hto : to < l.length) :
    Calls Try.prog 33 #[.slice P l.length cap, .int .i64 (to : Int)] w (StPost l to w) := by
  obtain ⟨i0, hi, hz0, hz1, hz2⟩ := info_parts info_int'
  have HI := Lib.hid hz2; clear hz2
  have HI1 := Lib.hid hz1; clear hz1
  have h10 := (good_all hg).1
  have HG := Lib.hid (good_all hg).2; clear hg
  have c1 : i0.bytes * l.length ≤ 281474976710656 := by rw [HI.out]; omega
  have c2 : l.length ≤ maxLen := by unfold maxLen; omega
  obtain ⟨b, o, rfl, hb, hc⟩ := hr.at (k := to * 6) (by rw [flat_n]; omega)
  have HC := Lib.hid hc; clear hc hr
  go_enter Try.func33, Try.ntmps33
  go_wp2_with (at_make; go_must (refine wpList_make_full _ rfl _ _ 27 rfl w.heap.size 3 i0 _ 1 Try.underlying27 hi hz0 HI1.out _ _ _ _ l.length rfl rfl rfl rfl c1 c2 (Nat.le_refl _) ?_; intro w1 hown1 hg1))
  have HB : Below w.heap.size w w1 := (Below.refl _ w).grown hg1 (Nat.le_refl _) (by intro k hk; cases hk)
  have O : w1.ownsRow w.heap.size 3 1 (.slice (some ⟨w.heap.size, 0, none⟩) l.length l.length) l.length (iv (List.replicate l.length 0)) := by
    have e : iv (List.replicate l.length 0) = List.replicate l.length (.int .i64 0) := by unfold iv; rw [List.map_replicate]
    rw [e]; simpa [Value.cells, toList_madeCells_one] using hown1
  clear hown1 hg1 c1 c2
  go_wp2
  go_loopw [6] (fun i wr => ∃ (k : Nat) (S : List Int), k ≤ l.length ∧ i = .int .i64 k ∧ Hid (S.length = l.length ∧ ∀ j, j < k → sAt S j = -1) ∧ wr.ownsRow w.heap.size 3 1 (.slice (some ⟨w.heap.size, 0, none⟩) l.length l.length) l.length (iv S) ∧ Below w.heap.size w wr) (fun i _ => l.length - (intOf i).toNat)
  case atStart => exact ⟨0, _, Nat.zero_le _, rfl, Lib.hid ⟨by simp, fun j hj => by omega⟩, O, HB⟩
  case round =>
    clear O HB
    obtain ⟨k, S, hk, rfl, HS, O, HB⟩ := hrel
    by_cases hlt : k < l.length
    · have m0 := own_get O hlt HS.out.1 rfl
      have g0 : wr.frozen? ⟨w.heap.size, k, none⟩ = false := O.frozenAt _
      go_wp2
      refine ⟨⟨k + 1, S.set k (-1), hlt, by go_num, Lib.hid ⟨by rw [List.length_set]; exact HS.out.1, fun j hj => ?_⟩, own_set O, HB.setCell (Nat.le_refl _) _⟩, by simp [intOf]; omega⟩
      by_cases e : j = k
      · subst e; exact sAt_self (by rw [HS.out.1]; exact hlt) _
      · rw [sAt_ne (fun h => e h.symm)]; exact HS.out.2 j (by omega)
    · obtain rfl : k = l.length := by omega
      have m0 := own_get O hto HS.out.1 rfl
      have g0 : wr.frozen? ⟨w.heap.size, to, none⟩ = false := O.frozenAt _
      go_wp2
      replace O := own_set (k := to) (v := 0) O
      replace HB := HB.setCell (p := ⟨w.heap.size, to, none⟩) (Nat.le_refl _) (.int .i64 0)
      have hSe : S.set to 0 = (List.replicate l.length (-1 : Int)).set to 0 := by
        have : S = List.replicate l.length (-1 : Int) := by
          apply List.ext_getElem
          · rw [HS.out.1]; simp
          · intro j h1 h2
            rw [sAt_get h1, HS.out.2 j (by rw [← HS.out.1]; exact h1)]; simp
        rw [this]
      rw [hSe] at O
      have HK := Lib.hid (K.init (adj := ad l) hto)
      clear hSe HS m0 g0 hk hlt
      generalize wr.setCell ⟨w.heap.size, to, none⟩ (.int .i64 0) = V at O HB ⊢
      generalize (List.replicate l.length (-1 : Int)).set to 0 = S0 at O HK
      go_loopw [7] (fun i wr => ∃ (m : Nat) (S : List Int), m ≤ l.length ∧ i = .int .i64 m ∧ Hid (K (ad l) l.length to m 0 m S) ∧ wr.ownsRow w.heap.size 3 1 (.slice (some ⟨w.heap.size, 0, none⟩) l.length l.length) l.length (iv S) ∧ Below w.heap.size w wr) (fun i _ => l.length - (intOf i).toNat)
      case atStart => exact ⟨0, _, Nat.zero_le _, rfl, HK, O, HB⟩
      case round =>
        clear O HB HK
        obtain ⟨m, S, hm, rfl, HK, O, HB⟩ := hrel
        by_cases hltm : m < l.length
        · go_wp2
          have HK1 := Lib.hid (HK.out.wide (show (m : Int) ≤ m + 1 by omega)); clear HK
          go_loopw [8] (fun i wr => ∃ (k : Nat) (S : List Int), k ≤ l.length ∧ i = .int .i64 k ∧ Hid (K (ad l) l.length to m k ((m : Int) + 1) S) ∧ wr.ownsRow w.heap.size 3 1 (.slice (some ⟨w.heap.size, 0, none⟩) l.length l.length) l.length (iv S) ∧ Below w.heap.size w wr) (fun i _ => l.length - (intOf i).toNat)
          case atStart => exact ⟨0, _, Nat.zero_le _, rfl, HK1, O, HB⟩
          case round =>
            clear O HB HK1
            obtain ⟨k, S, hk, rfl, HK, O, HB⟩ := hrel
            by_cases hltk : k < l.length
            · go_wp2
              go_loopw [9] (fun i wr => ∃ (q : Nat) (S : List Int), q ≤ l.length ∧ i = .int .i64 q ∧ Hid (K (ad l) l.length to m k ((m : Int) + 1) S ∧ (sAt S k = m → ∀ y, y < q → ad l k y = true → 0 ≤ sAt S y)) ∧ wr.ownsRow w.heap.size 3 1 (.slice (some ⟨w.heap.size, 0, none⟩) l.length l.length) l.length (iv S) ∧ Below w.heap.size w wr) (fun i _ => l.length - (intOf i).toNat)
              case atStart => exact ⟨0, _, Nat.zero_le _, rfl, Lib.hid ⟨HK.out, fun _ y hy => by omega⟩, O, HB⟩
              case round =>
                clear O HB HK
                obtain ⟨q, S, hq, rfl, HK, O, HB⟩ := hrel
                by_cases hltq : q < l.length
                · obtain ⟨v, hv⟩ : ∃ v, sAt S k = v := ⟨_, rfl⟩
                  obtain ⟨u, hu⟩ : ∃ u, sAt S q = u := ⟨_, rfl⟩
                  have m0 := own_get O hltk HK.out.1.len hv
                  by_cases hvm : v = m
                  · subst hvm
                    obtain ⟨x, hx⟩ : ∃ x, l[k] = x := ⟨_, rfl⟩
                    obtain ⟨y, hy⟩ : ∃ y, l[q] = y := ⟨_, rfl⟩
                    obtain ⟨x0, x1, x2, x3, x4, x5⟩ := cells6 (Below.refl _ w) hb HC.out hltk hx
                    obtain ⟨y0, y1, y2, y3, y4, y5⟩ := cells6 (Below.refl _ w) hb HC.out hltq hy
                    have HCY := Lib.hid (fun z => bank_spec x y (by have := HG.out k hltk; rwa [hx] at this) (by have := HG.out q hltq; rwa [hy] at this) z)
                    have HA := Lib.hid (ad_at hltk hltq hx hy)
                    clear hx hy
                    generalize bank x y = t at HCY HA
                    have HV := Lib.hid hv; have HU := Lib.hid hu; clear hv hu
                    have hw1 : IntKind.i64.wrap ((m : Int) + 1) = (m : Int) + 1 := IntWalk.i64_in _ (by omega)
                    by_cases hneg : u < 0
                    · have x0_c := ((bcell HB).1 _ _ hb).trans x0
                      have x1_c := ((bcell HB).1 _ _ hb).trans x1
                      have x2_c := ((bcell HB).1 _ _ hb).trans x2
                      have x3_c := ((bcell HB).1 _ _ hb).trans x3
                      have x4_c := ((bcell HB).1 _ _ hb).trans x4
                      have x5_c := ((bcell HB).1 _ _ hb).trans x5
                      have y0_c := ((bcell HB).1 _ _ hb).trans y0
                      have y1_c := ((bcell HB).1 _ _ hb).trans y1
                      have y2_c := ((bcell HB).1 _ _ hb).trans y2
                      have y3_c := ((bcell HB).1 _ _ hb).trans y3
                      have y4_c := ((bcell HB).1 _ _ hb).trans y4
                      have y5_c := ((bcell HB).1 _ _ hb).trans y5
                      go_wp2_with fail
                      clear m0
                      refine wp_region_text (fun w' => Below w.heap.size w w' ∧ w'.ownsRow (w.heap.size) 3 1 (.slice (some ⟨w.heap.size, 0, none⟩) l.length l.length) (l.length) (iv S)) (by kernel_rfl) (by kernel_rfl) ⟨be HB (Below.refl _ _).drew, own_keep O (Below.refl _ _).drew⟩ ?_
                      clear x0_c
                      clear x1_c
                      clear x2_c
                      clear x3_c
                      clear x4_c
                      clear x5_c
                      clear y0_c
                      clear y1_c
                      clear y2_c
                      clear y3_c
                      clear y4_c
                      clear y5_c
                      iterate 17 (
                        apply SeqH.one
                        · intro uw K hS hK
                          obtain ⟨qHB, qO⟩ := hS
                          have qx0_c := ((bcell qHB).1 _ _ hb).trans x0
                          have qx1_c := ((bcell qHB).1 _ _ hb).trans x1
                          have qx2_c := ((bcell qHB).1 _ _ hb).trans x2
                          have qx3_c := ((bcell qHB).1 _ _ hb).trans x3
                          have qx4_c := ((bcell qHB).1 _ _ hb).trans x4
                          have qx5_c := ((bcell qHB).1 _ _ hb).trans x5
                          have qy0_c := ((bcell qHB).1 _ _ hb).trans y0
                          have qy1_c := ((bcell qHB).1 _ _ hb).trans y1
                          have qy2_c := ((bcell qHB).1 _ _ hb).trans y2
                          have qy3_c := ((bcell qHB).1 _ _ hb).trans y3
                          have qy4_c := ((bcell qHB).1 _ _ hb).trans y4
                          have qy5_c := ((bcell qHB).1 _ _ hb).trans y5
                          first
                            | (go_simp; exact hK.out _ ⟨qHB, qO⟩)
                            | (go_simp; have m1 := own_get qO hltq HK.out.1.len HU.out; go_simp; exact hK.out _ ⟨qHB, qO⟩)
                            | (go_simp; go_at_call 34; (with_reducible refine (HCY.out _).mono ?_); rintro e uw1 ⟨rfl, hv⟩; go_wp2_with fail; exact hK.out _ ⟨be qHB hv, own_keep qO hv⟩)
                        try simp only [Act.put, List.setIfInBounds_toArray, List.set_cons_zero, List.set_cons_succ])
                      refine SeqH.end' rfl ?_
                      intro v1 hS
                      clear HB O
                      obtain ⟨HB, O⟩ := hS
                      have x0_c := ((bcell HB).1 _ _ hb).trans x0
                      have x1_c := ((bcell HB).1 _ _ hb).trans x1
                      have x2_c := ((bcell HB).1 _ _ hb).trans x2
                      have x3_c := ((bcell HB).1 _ _ hb).trans x3
                      have x4_c := ((bcell HB).1 _ _ hb).trans x4
                      have x5_c := ((bcell HB).1 _ _ hb).trans x5
                      have y0_c := ((bcell HB).1 _ _ hb).trans y0
                      have y1_c := ((bcell HB).1 _ _ hb).trans y1
                      have y2_c := ((bcell HB).1 _ _ hb).trans y2
                      have y3_c := ((bcell HB).1 _ _ hb).trans y3
                      have y4_c := ((bcell HB).1 _ _ hb).trans y4
                      have y5_c := ((bcell HB).1 _ _ hb).trans y5
                      by_cases ht : 0 < t
                      · have m1 := own_get O hltq HK.out.1.len HU.out
                        have g1 : v1.frozen? ⟨w.heap.size, q, none⟩ = false := O.frozenAt _
                        go_wp2
                        refine ⟨⟨q + 1, S.set q ((m : Int) + 1), hltq, by go_num, Lib.hid ⟨?_, fun hk2 z hz ha => ?_⟩, own_set O, HB.setCell (Nat.le_refl _) _⟩, by simp [intOf]; omega⟩
                        · exact HK.out.1.set hltq (by rw [HU.out]; exact hneg) hltk HV.out (by rw [ad_comm, HA.out]; exact decide_eq_true ht)
                        · by_cases e : z = q
                          · subst e; rw [sAt_self (by rw [HK.out.1.len]; exact hltq)]; omega
                          · rw [sAt_ne (fun h => e h.symm)]; exact HK.out.2 HV.out z (by omega) ha
                      · go_wp2
                        exact ⟨⟨q + 1, S, hltq, by go_num, Lib.hid ⟨HK.out.1, fun hk2 z hz ha => by
                          by_cases e : z = q
                          · subst e; rw [HA.out] at ha; exact absurd (of_decide_eq_true ha) ht
                          · exact HK.out.2 hk2 z (by omega) ha⟩, O, HB⟩, by simp [intOf]; omega⟩
                    · have hd : decide (u < 0) = false := decide_eq_false hneg
                      have hd2 : 0 ≤ u := by omega
                      go_wp2_with fail
                      clear m0
                      refine wp_region_text (fun w' => Below w.heap.size w w' ∧ w'.ownsRow (w.heap.size) 3 1 (.slice (some ⟨w.heap.size, 0, none⟩) l.length l.length) (l.length) (iv S)) (by kernel_rfl) (by kernel_rfl) ⟨be HB (Below.refl _ _).drew, own_keep O (Below.refl _ _).drew⟩ ?_
                      iterate 17 (
                        apply SeqH.one
                        · intro uw K hS hK
                          obtain ⟨qHB, qO⟩ := hS
                          first
                            | (go_simp; exact hK.out _ ⟨qHB, qO⟩)
                            | (go_simp; have m1 := own_get qO hltq HK.out.1.len HU.out; go_simp; exact hK.out _ ⟨qHB, qO⟩)
                        try simp only [Act.put, List.setIfInBounds_toArray, List.set_cons_zero, List.set_cons_succ])
                      refine SeqH.end' rfl ?_
                      intro v2 hS
                      clear HB O
                      obtain ⟨HB, O⟩ := hS
                      go_wp2
                      exact ⟨⟨q + 1, S, hltq, by go_num, Lib.hid ⟨HK.out.1, fun hk2 z hz ha => by
                        by_cases e : z = q
                        · subst e; rw [HU.out]; omega
                        · exact HK.out.2 hk2 z (by omega) ha⟩, O, HB⟩, by simp [intOf]; omega⟩
                  · have hb1 : (v == (m : Int)) = false := by simp [hvm]
                    have HV := Lib.hid (show ¬ sAt S k = m by rw [hv]; exact hvm); clear hv hu hvm
                    go_wp2
                    exact ⟨⟨k + 1, S, hltk, by go_num, Lib.hid (HK.out.1.nextI (fun e => absurd e HV.out)), O, HB⟩, by simp [intOf]; omega⟩
                · obtain rfl : q = l.length := by omega
                  go_wp2
                  exact ⟨⟨k + 1, S, hltk, by go_num, Lib.hid (HK.out.1.nextI HK.out.2), O, HB⟩, by simp [intOf]; omega⟩
            · obtain rfl : k = l.length := by omega
              go_wp2
              exact ⟨⟨m + 1, S, hltm, by go_num, Lib.hid HK.out.nextM, O, HB⟩, by simp [intOf]; omega⟩
        · obtain rfl : m = l.length := by omega
          go_wp2
          go_ret
          exact ⟨S, rfl, O, HB, HK.out⟩
end Go.Proofs.Ytncdkfkihfhcgaa.Steps
