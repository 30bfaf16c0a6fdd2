/- Batches in a row that are washed from the end: CounterCurrent, the model's and the program's. Made by tools/mk_batx.py. -/
import Derived.Test.YtpokgnkcnibapaaBatU
import Derived.Test.YtpokgnkcnibapaaBatC
namespace Go.Proofs.Ytpokgnkcnibapaa.BatX
open Go.RowKit Go.Proofs.Ytpokgnkcnibapaa.Mem Go.Proofs.Ytpokgnkcnibapaa.Base Go.Proofs.Ytpokgnkcnibapaa.Within Go.Proofs.Ytpokgnkcnibapaa.SBatch Go.Proofs.Ytpokgnkcnibapaa.Regn Go.Proofs.Ytpokgnkcnibapaa.Boxes Go.Proofs.Ytpokgnkcnibapaa.Keep Go.Proofs.Ytpokgnkcnibapaa.BatP Go.Proofs.Ytpokgnkcnibapaa.BatQ Go.Proofs.Ytpokgnkcnibapaa.BatS Go.Proofs.Ytpokgnkcnibapaa.BatR Go.Proofs.Ytpokgnkcnibapaa.BatV Go.Proofs.Ytpokgnkcnibapaa.BatU Go.Proofs.Ytpokgnkcnibapaa.BatC
set_option linter.unusedVariables false
set_option linter.unusedSimpArgs false
set_option maxRecDepth 100000
set_option maxHeartbeats 1600000 in
theorem cc_impl (P : Option Addr) (cap : Nat) (l : List R) (v : Int) (w : World) (hr : Rd w w.heap.size P (flat l)) (hcp : l.length ≤ cap) (hn : l.length ≤ 1048576) :
    Calls Try.prog 30 #[.slice P l.length cap, .int .i64 v] w (Row2 (ccL l v) (ccN l v) (ccOk l v) w) := by
  have HR := Lib.hid hr; clear hr
  go_enter Try.func30, Try.ntmps30
  cases hlen : inB (l.length : Int) 1 10
  · have HV := Lib.hid (cc_no1 (w := v) hlen)
    have O := empty_own (Below.refl w.heap.size w)
    go_wp2_with (go_at_call 53; (with_reducible refine (within_any _ _ _ _).mono ?_); rintro e' w' ⟨rfl, rfl⟩)
    go_ret3
    exact row2 (cc_no HV.out).1 (cc_no HV.out).2 HV.out rfl O (al (Below.refl w.heap.size w))
  obtain ⟨n1, n2⟩ := of_inB hlen
  go_wp2_with (go_at_call 53; (with_reducible refine (within_any _ _ _ _).mono ?_); rintro e' w' ⟨rfl, rfl⟩)
  refine (are_impl P cap l w HR.out hn).mono ?_
  rintro e w1 ⟨rfl, HB⟩
  cases hg : l.all okT
  · have HV := Lib.hid (cc_bad (w := v) hg)
    have O := empty_own HB
    go_wp2
    go_ret3
    exact row2 (cc_no HV.out).1 (cc_no HV.out).2 HV.out rfl O (al HB)
  have HG := Lib.hid hg; clear hg
  cases hv : isW v
  · have HV := Lib.hid (cc_no2 (l := l) hv)
    have O := empty_own HB
    go_wp2_with (go_at_call 52; (with_reducible refine (water_impl _ _).mono ?_); rintro e' w' ⟨rfl, rfl⟩)
    go_ret3
    exact row2 (cc_no HV.out).1 (cc_no HV.out).2 HV.out rfl O (al HB)
  obtain ⟨v0, v1⟩ := isW_true hv
  have HW := Lib.hid hv
  go_wp2_with (go_at_call 52; (with_reducible refine (water_impl _ _).mono ?_); rintro e' w' ⟨rfl, rfl⟩)
  refine (clone_any P cap l w1 ((HR.out.below HB (Nat.le_refl _)).mono HB.size) hn).mono ?_
  rintro e w2 ⟨A, c, rfl, O1, hv2⟩
  obtain ⟨g, hA⟩ : ∃ g : Nat, A = some ⟨g, 0, none⟩ := let ⟨g, _, h, _⟩ := own_some O1 (by omega); ⟨g, h⟩
  subst hA
  have O : Own w2 w.heap.size g c l := Own.base O1 HB.size
  replace HB := be HB hv2
  have HO0 := Lib.hid O
  have hgw := O.ge
  clear O O1 hv2 hv hlen
  go_wp2
  go_loopw [8, 9] (fun s i wr => ∃ (z d : Int) (k : Nat) (m : List R), k ≤ l.length ∧ i = .int .i64 z ∧ s = .int .i64 d ∧ Hid (z + 1 = k) ∧ Hid (cc v (l.drop k) = some (m, d)) ∧ 0 ≤ d ∧ d ≤ v ∧ Hid (Own wr w.heap.size g c (mixed l m k)) ∧ Below w.heap.size w wr) (fun _ i _ => (intOf i + 1).toNat)
  case atStart => exact ⟨(l.length : Int) - 1, 0, l.length, [], Nat.le_refl _, by go_num, rfl, Lib.hid (by omega), Lib.hid (by rw [List.drop_length]; rfl), by omega, by omega, Lib.hid (by rw [mixed_all]; exact HO0.out), HB⟩
  case round =>
    clear HB HO0
    obtain ⟨z, d, k, m, hk, rfl, rfl, HZ, HC, d0, d1, HO, HB⟩ := hrel
    have O := HO.out; clear HO
    rcases Nat.eq_zero_or_pos k with hk0 | hk0
    · obtain rfl : z = -1 := by have := HZ.out; omega
      have HCE := Lib.hid (show cc v l = some (m, d) by have := HC.out; rwa [hk0, List.drop_zero] at this)
      have HE := Lib.hid (cc_some (by omega) (by omega) HW.out (List.all_eq_true.1 HG.out) HCE.out)
      have hml : mixed l m k = m := by rw [hk0, mixed_zero]
      rw [hml] at O
      have HSL := Lib.hid (cc_len HCE.out)
      clear hml hk0 hk HZ HC
      go_wp2
      go_ret3
      exact row2 HE.out.2.1 HE.out.2.2 HE.out.1 (by rw [HSL.out]; first | rfl | simp) O HB
    · obtain ⟨j, rfl⟩ : ∃ j, k = j + 1 := ⟨k - 1, by omega⟩
      obtain rfl : z = (j : Int) := by have := HZ.out; omega
      have hlt : j < l.length := by omega
      obtain ⟨x, hx⟩ : ∃ x, l[j] = x := ⟨_, rfl⟩
      have hlm := cc_len HC.out
      rw [List.length_drop] at hlm
      have hml : (mixed l m (j + 1)).length = l.length := mixed_len hk hlm
      have hlk : j < (mixed l m (j + 1)).length := by omega
      have HXK := Lib.hid ((mixed_get hlt hlk).trans hx)
      have HLK := Lib.hid hlk
      have HL := Lib.hid hlt
      have HX := Lib.hid hx
      clear hlm hml hk0 hk hx HZ
      have hok : okT x = true := by rw [← HX.out]; exact all_get HG.out hlt
      obtain ⟨y, hy⟩ : ∃ y, wash x v d = y := ⟨_, rfl⟩
      obtain ⟨q, hq⟩ : ∃ q, gone x v d = q := ⟨_, rfl⟩
      have q0 : 0 ≤ q := by rw [← hq]; exact (gone_bd hok v0 d0 d1).1
      have HSET := Lib.hid (show (mixed l m (j + 1)).set j y = mixed l (y :: m) j from mixed_set hlt)
      have HST := Lib.hid (fun hle : q ≤ v => show cc v (l.drop j) = some (y :: m, q) by
        have h := cc_step (w := v) HL.out HC.out (by rw [HX.out, hq]; exact hle)
        rw [HX.out, hq, hy] at h; exact h)
      have HFA := Lib.hid (fun hle : ¬ q ≤ v => cc_up (w := v) (Nat.le_of_lt HL.out) (cc_fall (w := v) HL.out HC.out (by rw [HX.out, hq]; exact hle)))
      have HY := Lib.hid hy; clear hy
      have HQ := Lib.hid hq; clear hq
      obtain ⟨c0, c1, c2⟩ := O.cells HLK.out HXK.out
      go_wp2_with fail
      clear c0 c1 c2
      go_wp2_with fail
      refine (wash_impl x v d hok v0 v1 d0 d1 _).mono ?_
      rintro e v1 ⟨rfl, hv1⟩
      replace O := Own.keep O hv1
      replace HB := be HB hv1
      have zhv1 := hv1.size
      rw [HY.out, HQ.out]
      unfold R.val
      obtain ⟨c0, c1, c2⟩ := O.cells HLK.out HXK.out
      have f0 := O.free (j * 3)
      have f1 := O.free (j * 3 + 1)
      have f2 := O.free (j * 3 + 2)
      have O2 := Lib.hid (show Own _ w.heap.size g c (mixed l (y :: m) j) by have h := O.put y HLK.out; rw [HSET.out] at h; exact h)
      have HB2 := Lib.hid (below_put HB hgw (i := j * 3) (v0 := .int .i64 y.f0) (v1 := .int .i64 y.f1) (v2 := .int .i64 y.f2))
      clear O HB
      by_cases hle : q ≤ v
      · have hle' : decide (v < q) = false := decide_eq_false (by omega)
        have HN := Lib.hid (HST.out hle)
        go_wp2
        go_roundw
        case rel => exact ⟨(j : Int) - 1, q, j, y :: m, Nat.le_of_lt HL.out, by go_num, rfl, Lib.hid (by omega), HN, q0, by omega, O2, HB2.out⟩
        case measure => simp [intOf]
      · have hle' : decide (v < q) = true := decide_eq_true (by omega)
        have HV := Lib.hid (cc_no4 (HFA.out (by omega)))
        have O := empty_own HB2.out
        simp only [size_set'] at O
        go_wp2
        go_ret3
        exact row2 (cc_no HV.out).1 (cc_no HV.out).2 HV.out rfl O (al HB2.out)
set_option maxHeartbeats 1600000 in
theorem cc_spec (P : Option Addr) (cap : Nat) (l : List R) (v : Int) (w : World) (hr : Rd w w.heap.size P (flat l)) (hn : l.length ≤ 1048576) :
    Calls Try.prog 31 #[.slice P l.length cap, .int .i64 v] w (Row2 (ccL l v) (ccN l v) (ccOk l v) w) := by
  obtain ⟨i0, hi, hz0, hz1, hz2⟩ := info_parts info_T
  have HI := Lib.hid hz2; clear hz2
  have HI1 := Lib.hid hz1; clear hz1
  have HR := Lib.hid hr; clear hr
  go_enter Try.func31, Try.ntmps31
  cases hlen : inB (l.length : Int) 1 10
  · have HV := Lib.hid (cc_no1 (w := v) hlen)
    have O := empty_own (Below.refl w.heap.size w)
    go_wp2_with (go_at_call 59; (with_reducible refine (in_any _ _ _ _).mono ?_); rintro e' w' ⟨rfl, rfl⟩)
    go_ret3
    exact row2 (cc_no HV.out).1 (cc_no HV.out).2 HV.out rfl O (al (Below.refl w.heap.size w))
  obtain ⟨n1, n2⟩ := of_inB hlen
  cases hv : inB v 1 100000000
  · have HV := Lib.hid (cc_no2 (l := l) (show isW v = false from hv))
    have O := empty_own (Below.refl w.heap.size w)
    go_wp2_with (go_at_call 59; (with_reducible refine (in_any _ _ _ _).mono ?_); rintro e' w' ⟨rfl, rfl⟩)
    go_ret3
    exact row2 (cc_no HV.out).1 (cc_no HV.out).2 HV.out rfl O (al (Below.refl w.heap.size w))
  obtain ⟨v0, v1⟩ := of_inB hv
  have HW := Lib.hid (show isW v = true from hv)
  obtain ⟨b, o, rfl, hb, hc⟩ := HR.out.at (k := 0) (by rw [flat_n]; omega)
  have HN := Lib.hid (show ∀ j u, (flat l)[j]? = some u → (w.alloc (.cells #[] 25)).cell? ((⟨b, o, none⟩ : Addr).add j) = some u from fun j u hu => by
    rw [cell_add, ((bcell (al (Below.refl w.heap.size w) (o := .cells #[] 25))).1 _ _ hb)]
    exact hc j u hu)
  have HCC := Lib.hid hc; clear hc
  have O := empty_own (Below.refl _ w)
  have HO := Lib.hid O; clear O
  go_wp2_with (first | (go_at_call 59; (with_reducible refine (in_any _ _ _ _).mono ?_); rintro e' w' ⟨rfl, rfl⟩) | (at_builtin; go_must (refine wpList_append_own _ rfl _ _ 38 rfl w.heap.size 25 i0 _ 3 24 Try.underlying38 hi hz0 HI1.out HI.out rfl (by decide) _ 0 _ rfl HO.out ⟨b, o, none⟩ l.length cap (flat l) rfl (flat_n l) HN.out (flat_one l) (by unfold maxLen; omega) (by omega) (by rw [size_alloc']; omega) ?_; intro v' w9 hown1 hgrow _)))
  have HB := bl_grown (al (Below.refl w.heap.size w) (o := .cells #[] 25)) hgrow (fun k hk => own_ge HO.out k hk)
  obtain ⟨A1, c, rfl⟩ := own_form hown1
  have O1 : w9.ownsRow w.heap.size 25 3 (.slice A1 l.length c) l.length (flat l) := by simpa [flat] using hown1
  obtain ⟨g, hA⟩ : ∃ g : Nat, A1 = some ⟨g, 0, none⟩ := let ⟨g, _, h, _⟩ := own_some O1 (by omega); ⟨g, h⟩
  subst hA
  have O : Own w9 w.heap.size g c l := O1
  have HO0 := Lib.hid O
  have hgw := O.ge
  clear hgrow hown1 O O1 HO hv hlen
  rw [Nat.zero_add l.length]
  go_wp2
  go_loopw [8, 9] (fun s i wr => ∃ (z d : Int) (k : Nat) (m : List R), k ≤ l.length ∧ i = .int .i64 z ∧ s = .int .i64 d ∧ Hid (z + 1 = k) ∧ Hid (cc v (l.drop k) = some (m, d)) ∧ Hid (∀ x ∈ l.drop k, okT x = true) ∧ 0 ≤ d ∧ d ≤ v ∧ Hid (Own wr w.heap.size g c (mixed l m k)) ∧ Below w.heap.size w wr) (fun _ i _ => (intOf i + 1).toNat)
  case atStart => exact ⟨(l.length : Int) - 1, 0, l.length, [], Nat.le_refl _, by go_num, rfl, Lib.hid (by omega), Lib.hid (by rw [List.drop_length]; rfl), Lib.hid (by rw [List.drop_length]; intro x hx; cases hx), by omega, by omega, Lib.hid (by rw [mixed_all]; exact HO0.out), HB⟩
  case round =>
    clear HB HO0 HN
    obtain ⟨z, d, k, m, hk, rfl, rfl, HZ, HC, HA, d0, d1, HO, HB⟩ := hrel
    have O := HO.out; clear HO
    rcases Nat.eq_zero_or_pos k with hk0 | hk0
    · obtain rfl : z = -1 := by have := HZ.out; omega
      have HCE := Lib.hid (show cc v l = some (m, d) by have := HC.out; rwa [hk0, List.drop_zero] at this)
      have HE := Lib.hid (cc_some (by omega) (by omega) HW.out (by have := HA.out; rwa [hk0, List.drop_zero] at this) HCE.out)
      have hml : mixed l m k = m := by rw [hk0, mixed_zero]
      rw [hml] at O
      have HSL := Lib.hid (cc_len HCE.out)
      clear hml hk0 hk HZ HC
      go_wp2
      go_ret3
      exact row2 HE.out.2.1 HE.out.2.2 HE.out.1 (by rw [HSL.out]; first | rfl | simp) O HB
    · obtain ⟨j, rfl⟩ : ∃ j, k = j + 1 := ⟨k - 1, by omega⟩
      obtain rfl : z = (j : Int) := by have := HZ.out; omega
      have hlt : j < l.length := by omega
      obtain ⟨x, hx⟩ : ∃ x, l[j] = x := ⟨_, rfl⟩
      have hlm := cc_len HC.out
      rw [List.length_drop] at hlm
      have hml : (mixed l m (j + 1)).length = l.length := mixed_len hk hlm
      have hlk : j < (mixed l m (j + 1)).length := by omega
      have HXK := Lib.hid ((mixed_get hlt hlk).trans hx)
      have HLK := Lib.hid hlk
      have HL := Lib.hid hlt
      have HX := Lib.hid hx
      clear hlm hml hk0 hk hx HZ
      obtain ⟨h0, h1, h2⟩ := cells3 HB hb HCC.out hlt HX.out
      have hin : inB d 0 v = true := inB_true ⟨d0, d1⟩
      cases hok : okT x
      · have HV := Lib.hid (cc_no3 (w := v) HL.out (by rw [HX.out]; exact hok))
        have HWT := Lib.hid (aw1 (v := v) (d := d) hok)
        go_wp2_with fail
        refine (water_spec x v d _).mono ?_
        rintro e v1 ⟨rfl, hv1⟩
        replace O := Own.keep O hv1
        replace HB := be HB hv1
        have zhv1 := hv1.size
        rw [HWT.out]
        have O := empty_own HB
        go_wp2
        go_ret3
        exact row2 (cc_no HV.out).1 (cc_no HV.out).2 HV.out rfl O (al HB)
      have HWT := Lib.hid (aw4 hok HW.out hin)
      obtain ⟨y, hy⟩ : ∃ y, wash x v d = y := ⟨_, rfl⟩
      obtain ⟨q, hq⟩ : ∃ q, gone x v d = q := ⟨_, rfl⟩
      have q0 : 0 ≤ q := by rw [← hq]; exact (gone_bd hok v0 d0 d1).1
      have HSET := Lib.hid (show (mixed l m (j + 1)).set j y = mixed l (y :: m) j from mixed_set hlt)
      have HST := Lib.hid (fun hle : q ≤ v => show cc v (l.drop j) = some (y :: m, q) by
        have h := cc_step (w := v) HL.out HC.out (by rw [HX.out, hq]; exact hle)
        rw [HX.out, hq, hy] at h; exact h)
      have HFA := Lib.hid (fun hle : ¬ q ≤ v => cc_up (w := v) (Nat.le_of_lt HL.out) (cc_fall (w := v) HL.out HC.out (by rw [HX.out, hq]; exact hle)))
      have HY := Lib.hid hy; clear hy
      have HQ := Lib.hid hq; clear hq
      have HOY := Lib.hid (show okT y = true by rw [← HY.out]; exact wash_ok hok v0 d0 d1)
      have HAN := Lib.hid (show ∀ x ∈ l.drop j, okT x = true by
        intro u hu
        rw [List.drop_eq_getElem_cons HL.out] at hu
        rcases List.mem_cons.1 hu with rfl | hu
        · rw [HX.out]; exact hok
        · exact HA.out u hu)
      go_wp2_with fail
      refine (water_spec x v d _).mono ?_
      rintro e v2 ⟨rfl, hv2⟩
      replace O := Own.keep O hv2
      replace HB := be HB hv2
      have zhv2 := hv2.size
      rw [HWT.out]
      clear h0 h1 h2
      obtain ⟨h0, h1, h2⟩ := cells3 HB hb HCC.out hlt HX.out
      go_wp2_with fail
      refine (wash_spec x v d hok v0 v1 d0 d1 _).mono ?_
      rintro e v3 ⟨rfl, hv3⟩
      replace O := Own.keep O hv3
      replace HB := be HB hv3
      have zhv3 := hv3.size
      rw [HY.out, HQ.out]
      unfold R.val
      clear h0 h1 h2
      go_upto_region 10 with fail
      have Y := Box.new HB [.int .i64 y.f0, .int .i64 y.f1, .int .i64 y.f2] 25 (g := v3.heap.size) rfl
      replace O := Own.keep O (al (Below.refl _ _) (o := (.cells #[.int .i64 y.f0, .int .i64 y.f1, .int .i64 y.f2] 25)))
      replace HB := be HB (al (Below.refl _ _) (o := (.cells #[.int .i64 y.f0, .int .i64 y.f1, .int .i64 y.f2] 25)))
      generalize (v3.alloc (.cells #[.int .i64 y.f0, .int .i64 y.f1, .int .i64 y.f2] 25)) = W4 at Y O HB ⊢
      have Y_0 := Y.cells 0 _ rfl
      have Y_1 := Y.cells 1 _ rfl
      have Y_2 := Y.cells 2 _ rfl
      have Y_f0 := Y.free 0 (by simp)
      have Y_f1 := Y.free 1 (by simp)
      have Y_f2 := Y.free 2 (by simp)
      have Y_t := Y.there
      obtain ⟨c0, c1, c2⟩ := O.cells HLK.out HXK.out
      have f0 := O.free (j * 3)
      have f1 := O.free (j * 3 + 1)
      have f2 := O.free (j * 3 + 2)
      have O2 := Lib.hid (show Own _ w.heap.size g c (mixed l (y :: m) j) by have h := O.put y HLK.out; rw [HSET.out] at h; exact h)
      have HB2 := Lib.hid (below_put HB hgw (i := j * 3) (v0 := .int .i64 y.f0) (v1 := .int .i64 y.f1) (v2 := .int .i64 y.f2))
      clear O HB
      go_wp2_with fail
      refine (good_spec y _).mono ?_
      rintro e v9 ⟨rfl, hv9⟩
      have O3 := Lib.hid (Own.keep O2.out hv9)
      have HB3 := Lib.hid (be HB2.out hv9)
      rw [HOY.out]
      clear O2 HB2 hv9 c0 c1 c2 f0 f1 f2
      clear Y_0 Y_1 Y_2 Y_f0 Y_f1 Y_f2 Y_t
      clear Y
      by_cases hle : q ≤ v
      · have hle' : decide (v < q) = false := decide_eq_false (by omega)
        have HN := Lib.hid (HST.out hle)
        go_wp2
        go_roundw
        case rel =>
          exact ⟨(j : Int) - 1, q, j, y :: m, Nat.le_of_lt HL.out, by go_num, rfl, Lib.hid (by omega), HN, HAN, q0, by omega, O3, HB3.out⟩
        case measure => simp [intOf]
      · have hle' : decide (v < q) = true := decide_eq_true (by omega)
        have HV := Lib.hid (cc_no4 (HFA.out (by omega)))
        have O := empty_own HB3.out
        go_wp2
        go_ret3
        exact row2 (cc_no HV.out).1 (cc_no HV.out).2 HV.out rfl O (al HB3.out)
end Go.Proofs.Ytpokgnkcnibapaa.BatX
