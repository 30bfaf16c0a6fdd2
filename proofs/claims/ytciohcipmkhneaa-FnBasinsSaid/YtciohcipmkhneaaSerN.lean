/- Series: SunOnSeries. -/
import Derived.Test.YtciohcipmkhneaaSerQ
import Derived.Test.YtciohcipmkhneaaSunE
namespace Go.Proofs.Ytciohcipmkhneaa.SerN
open Go.RowKit Go.Proofs.Ytciohcipmkhneaa.Mem Go.Proofs.Ytciohcipmkhneaa.Base Go.Proofs.Ytciohcipmkhneaa.Within Go.Proofs.Ytciohcipmkhneaa.Brine Go.Proofs.Ytciohcipmkhneaa.Regn Go.Proofs.Ytciohcipmkhneaa.Boxes Go.Proofs.Ytciohcipmkhneaa.Keep Go.Proofs.Ytciohcipmkhneaa.Ser Go.Proofs.Ytciohcipmkhneaa.SerG Go.Proofs.Ytciohcipmkhneaa.SerC Go.Proofs.Ytciohcipmkhneaa.SerQ
open Go.Proofs.Ytciohcipmkhneaa.SBasin hiding RPost rpost
set_option linter.unusedVariables false
set_option maxRecDepth 100000
def dry (x : R) (r : Int) : Int := SunA.loss x.f1 x.f2 r x.f0
def sunAt (x : R) (r : Int) : R := ⟨x.f0, x.f1 - dry x r, x.f2⟩
def sunK (l : List R) (r : Int) (k : Nat) : List R := tell l.length fun i => if i < k then sunAt (l.getD i zero) r else l.getD i zero
theorem sunK_len (l : List R) (r : Int) (k : Nat) : (sunK l r k).length = l.length := tell_len _ _
theorem sunK_zero (l : List R) (r : Int) : sunK l r 0 = l := by
  have : sunK l r 0 = tell l.length (fun i => l.getD i zero) := by unfold sunK; congr 1
  rw [this, tell_id]
theorem sunK_get {l : List R} {r : Int} {k i : Nat} (h : i < (sunK l r k).length) : (sunK l r k)[i] = if i < k then sunAt (l.getD i zero) r else l.getD i zero := tell_get h
theorem sunK_at {l : List R} {r : Int} {k : Nat} {x : R} (h : k < l.length) (hx : l[k] = x) (h' : k < (sunK l r k).length) : (sunK l r k)[k] = x := by
  rw [sunK_get, if_neg (by omega), getD_at h, hx]
theorem sunK_set {l : List R} {r : Int} {k : Nat} {x : R} (h : k < l.length) (hx : l[k] = x) : (sunK l r k).set k ⟨x.f0, x.f1 - dry x r, x.f2⟩ = sunK l r (k + 1) := by
  refine tell_set (by rw [if_pos (by omega), getD_at h, hx]; rfl) fun i hi hne => ?_
  by_cases h1 : i < k
  · rw [if_pos h1, if_pos (by omega)]
  · rw [if_neg h1, if_neg (by omega)]
def sumK (l : List R) (r : Int) (k : Nat) : Int := ((l.take k).map fun x => dry x r).sum
theorem sumK_next {l : List R} {r : Int} {k : Nat} {x : R} (h : k < l.length) (hx : l[k] = x) : sumK l r (k + 1) = sumK l r k + dry x r := by
  unfold sumK; rw [List.take_succ_eq_append_getElem h, List.map_append, List.sum_append, hx]; simp
def sunOk (l : List R) (r : Int) : Bool := good l && inB r 0 20000
def sunL (l : List R) (r : Int) : List R := if sunOk l r = true then sunK l r l.length else []
def sunN (l : List R) (r : Int) : Int := if sunOk l r = true then sumK l r l.length else 0
theorem sunL_no {l : List R} {r : Int} (h : sunOk l r = false) : sunL l r = [] ∧ sunN l r = 0 := by unfold sunL sunN; rw [h]; exact ⟨rfl, rfl⟩
theorem sunL_yes {l : List R} {r : Int} (h : sunOk l r = true) : sunL l r = sunK l r l.length ∧ sunN l r = sumK l r l.length := by unfold sunL sunN; rw [if_pos h, if_pos h]; exact ⟨rfl, rfl⟩
theorem sun1 {l : List R} {r : Int} (h : good l = false) : sunOk l r = false := by unfold sunOk; rw [h]; rfl
theorem sun2 {l : List R} {r : Int} (h : inB r 0 20000 = false) : sunOk l r = false := by unfold sunOk; rw [h, Bool.and_false]
theorem sun3 {l : List R} {r : Int} (h : good l = true) (h1 : inB r 0 20000 = true) : sunOk l r = true := by unfold sunOk; rw [h, h1]; rfl
theorem sun_len (l : List R) (r : Int) : (sunL l r).length ≤ 100 := by
  unfold sunL
  split
  · rename_i h
    unfold sunOk at h
    rw [Bool.and_eq_true] at h
    have := (good_all h.1).2.1
    rw [sunK_len]; omega
  · simp
theorem dry_bd {x : R} {r : Int} (h : okA x = true) (h0 : 0 ≤ r) (h1 : r ≤ 20000) : 0 ≤ dry x r ∧ dry x r ≤ x.f1 := by
  have := okA_true h
  exact SunA.loss_bd (by omega) (by omega) h0 h1 (by omega) (by omega)
set_option maxHeartbeats 1600000 in
theorem sun_spec (P : Option Addr) (cap : Nat) (l : List R) (r : Int) (w : World) (hr : Rd w w.heap.size P (flat l)) (hn : l.length ≤ 1048576) :
    Calls Try.prog 37 #[.slice P l.length cap, .int .i64 r] w (Row2 (sunL l r) (sunN l r) (sunOk l r) w) := by
  have HR := Lib.hid hr; clear hr
  go_enter Try.func37, Try.ntmps37
  go_wp2_with fail
  refine (good_spec P cap l w HR.out hn).mono ?_
  rintro e w1 ⟨rfl, HB⟩
  have O := empty_own HB
  cases hg : good l
  · have HV := Lib.hid (sun1 (r := r) hg)
    go_wp2
    go_ret3
    exact row2 (sunL_no HV.out).1 (sunL_no HV.out).2 HV.out rfl O (al HB)
  have HG := Lib.hid hg; clear hg
  cases hrr : inB r 0 20000
  · have HV := Lib.hid (sun2 (l := l) hrr)
    go_wp2_with (go_at_call 89; (with_reducible refine (in_any _ _ _ _).mono ?_); rintro e' w' ⟨rfl, rfl⟩; try rw [hrr])
    go_ret3
    exact row2 (sunL_no HV.out).1 (sunL_no HV.out).2 HV.out rfl O (al HB)
  clear O
  have HV := Lib.hid (sun3 HG.out hrr)
  obtain ⟨r0, r1⟩ := of_inB hrr
  obtain ⟨g1, g8, _⟩ := good_all HG.out
  go_wp2_with (go_at_call 89; (with_reducible refine (in_any _ _ _ _).mono ?_); rintro e' w' ⟨rfl, rfl⟩; try rw [hrr])
  clear hrr
  refine (own_spec P cap l w1 ((HR.out.below HB (Nat.le_refl _)).mono HB.size) g1 hn).mono ?_
  rintro e w2 ⟨g, c, rfl, O, hv⟩
  replace O := O.base HB.size
  replace HB := be HB hv
  have HO0 := Lib.hid O
  have hgw := O.ge
  clear O hv
  go_wp2
  go_loopw [8, 9] (fun s i wr => ∃ (k : Nat) (q : Int), k ≤ l.length ∧ i = .int .i64 k ∧ s = .int .i64 q ∧ Hid (q = sumK l r k) ∧ 0 ≤ q ∧ q ≤ 1000000 * k ∧ Hid (Own wr w.heap.size g c (sunK l r k)) ∧ Below w.heap.size w wr) (fun _ i _ => l.length - (intOf i).toNat)
  case atStart => exact ⟨0, 0, Nat.zero_le _, rfl, rfl, Lib.hid rfl, by omega, by omega, Lib.hid (by rw [sunK_zero]; exact HO0.out), HB⟩
  case round =>
    clear HB HO0
    obtain ⟨k, q, hk, rfl, rfl, HQ, q0, q1, HO, HB⟩ := hrel
    have O := HO.out; clear HO
    by_cases hlt : k < l.length
    · obtain ⟨x, hx⟩ : ∃ x, l[k] = x := ⟨_, rfl⟩
      have hoa := good_get HG.out hlt hx
      obtain ⟨ha0, ha1, hu0, hu1, hv0, hv1⟩ := okA_true hoa
      obtain ⟨d0, d1⟩ := dry_bd hoa r0 r1
      obtain ⟨d, hd⟩ : ∃ d, dry x r = d := ⟨_, rfl⟩
      rw [hd] at d0 d1
      have hlk : k < (sunK l r k).length := by rw [sunK_len]; exact hlt
      have hxk := sunK_at (r := r) hlt hx hlk
      have hset := sunK_set (r := r) hlt hx
      rw [hd] at hset
      have HNX := Lib.hid ((sumK_next hlt hx).trans (by rw [hd]))
      obtain ⟨c0, c1, c2⟩ := O.cells hlk hxk
      have HD := Lib.hid (show SunA.loss x.f1 x.f2 r x.f0 = d from hd)
      have HS := Lib.hid hset
      have HXK := Lib.hid hxk
      have HL := Lib.hid hlt
      have HLK := Lib.hid hlk
      have y1 : IntKind.i64.wrap (x.f1 - d) = x.f1 - d := IntWalk.i64_in _ (by omega)
      have y2 : IntKind.i64.wrap (q + d) = q + d := IntWalk.i64_in _ (by omega)
      clear hx hoa hd hset hxk
      go_wp2_with fail
      refine wp_region_text (fun w' => w'.cell? ⟨g, k * 3, none⟩ = some (.int .i64 x.f0) ∧ w'.cell? ⟨g, k * 3 + 1, none⟩ = some (.int .i64 x.f1) ∧ w'.cell? ⟨g, k * 3 + 2, none⟩ = some (.int .i64 x.f2) ∧ Own w' w.heap.size g c (sunK l r k) ∧ Below w.heap.size w w') (by kernel_rfl) (by kernel_rfl) ⟨cell_kept c0 (Below.refl _ _).drew, cell_kept c1 (Below.refl _ _).drew, cell_kept c2 (Below.refl _ _).drew, Own.keep O (Below.refl _ _).drew, be HB (Below.refl _ _).drew⟩ ?_
      iterate 13 (
        apply SeqH.one
        · intro uw K hS hK
          obtain ⟨qc0, qc1, qc2, qO, qHB⟩ := hS
          first
            | (go_simp; exact hK.out _ ⟨qc0, qc1, qc2, qO, qHB⟩)
            | (go_simp; go_at_call 97; (with_reducible refine (SunE.loss_spec x.f1 x.f2 x.f0 r hu0 hu1 hv0 hv1 r0 r1 ha0 ha1 _).mono ?_); rintro e uw1 ⟨rfl, hv⟩; rw [HD.out]; go_wp2_with fail; exact hK.out _ ⟨cell_kept qc0 hv, cell_kept qc1 hv, cell_kept qc2 hv, Own.keep qO hv, be qHB hv⟩)
        try simp only [Act.put, List.setIfInBounds_toArray, List.set_cons_zero, List.set_cons_succ])
      refine SeqH.end' rfl ?_
      intro v1 hS
      clear c0 c1 c2 O HB
      obtain ⟨c0, c1, c2, O, HB⟩ := hS
      go_wp2_with fail
      refine wp_region_last 19 (fun w' => w'.cell? ⟨g, k * 3, none⟩ = some (.int .i64 x.f0) ∧ w'.cell? ⟨g, k * 3 + 1, none⟩ = some (.int .i64 x.f1) ∧ w'.cell? ⟨g, k * 3 + 2, none⟩ = some (.int .i64 x.f2) ∧ Own w' w.heap.size g c (sunK l r k) ∧ Below w.heap.size w w') (by kernel_rfl) (by kernel_rfl) (by kernel_rfl) ⟨cell_kept c0 (Below.refl _ _).drew, cell_kept c1 (Below.refl _ _).drew, cell_kept c2 (Below.refl _ _).drew, Own.keep O (Below.refl _ _).drew, be HB (Below.refl _ _).drew⟩ ?_
      simp only [List.take_succ_cons, List.take_zero]
      iterate 19 (
        apply SeqH.one
        · intro uw K hS hK
          obtain ⟨qc0, qc1, qc2, qO, qHB⟩ := hS
          first
            | (go_simp; exact hK.out _ ⟨qc0, qc1, qc2, qO, qHB⟩)
        try simp only [Act.put, List.setIfInBounds_toArray, List.set_cons_zero, List.set_cons_succ])
      refine SeqH.rest rfl ?_
      intro v2 hS
      clear c0 c1 c2 O HB
      obtain ⟨c0, c1, c2, O, HB⟩ := hS
      simp only [List.drop_succ_cons, List.drop_zero]
      have f1 := O.free (k * 3 + 1)
      have f2 := O.free (k * 3 + 2)
      have O2 := Lib.hid (O.put HLK.out HXK.out (x.f1 - d) x.f2)
      have HB2 := Lib.hid (below_put HB hgw (i := k * 3 + 1) (v0 := .int .i64 (x.f1 - d)) (v1 := .int .i64 x.f2))
      clear O HB
      go_wp2
      go_roundw
      case rel => exact ⟨k + 1, q + d, HL.out, by go_num, rfl, Lib.hid (by rw [HNX.out, HQ.out]), by omega, by omega, Lib.hid (by have h := O2.out; rw [HS.out] at h; exact h), HB2.out⟩
      case measure => have := HL.out; simp [intOf]; omega
    · have hkk : k = l.length := by omega
      have hsl := sunK_len l r k
      have HE := Lib.hid (sunL_yes HV.out)
      have HQE := Lib.hid (show sunN l r = q by rw [HE.out.2, HQ.out, hkk])
      have HLE := Lib.hid (show sunL l r = sunK l r k by rw [HE.out.1, hkk])
      have HSL := Lib.hid hsl
      clear hkk hsl
      go_wp2
      go_ret3
      exact row2 HLE.out HQE.out HV.out (by rw [HSL.out] <;> rfl) O HB
set_option maxHeartbeats 1600000 in
theorem sun_impl (P : Option Addr) (cap : Nat) (l : List R) (r : Int) (w : World) (hr : Rd w w.heap.size P (flat l)) (hcp : l.length ≤ cap) (hn : l.length ≤ 1048576) :
    Calls Try.prog 36 #[.slice P l.length cap, .int .i64 r] w (Row2 (sunL l r) (sunN l r) (sunOk l r) w) := by
  have HR := Lib.hid hr; clear hr
  go_enter Try.func36, Try.ntmps36
  go_wp2_with fail
  refine (good_impl P cap l w HR.out hn).mono ?_
  rintro e w1 ⟨rfl, HB⟩
  have O := empty_own HB
  cases hg : good l
  · have HV := Lib.hid (sun1 (r := r) hg)
    go_wp2
    go_ret3
    exact row2 (sunL_no HV.out).1 (sunL_no HV.out).2 HV.out rfl O (al HB)
  have HG := Lib.hid hg; clear hg
  cases hrr : inB r 0 20000
  · have HV := Lib.hid (sun2 (l := l) hrr)
    go_wp2_with (go_at_call 82; (with_reducible refine (within_any _ _ _ _).mono ?_); rintro e' w' ⟨rfl, rfl⟩; try rw [hrr])
    go_ret3
    exact row2 (sunL_no HV.out).1 (sunL_no HV.out).2 HV.out rfl O (al HB)
  clear O
  have HV := Lib.hid (sun3 HG.out hrr)
  obtain ⟨r0, r1⟩ := of_inB hrr
  obtain ⟨g1, g8, _⟩ := good_all HG.out
  go_wp2_with (go_at_call 82; (with_reducible refine (within_any _ _ _ _).mono ?_); rintro e' w' ⟨rfl, rfl⟩; try rw [hrr])
  clear hrr
  refine (copy_impl P cap l w1 ((HR.out.below HB (Nat.le_refl _)).mono HB.size) g1 hn).mono ?_
  rintro e w2 ⟨g, c, rfl, O, hv⟩
  replace O := O.base HB.size
  replace HB := be HB hv
  have HO0 := Lib.hid O
  have hgw := O.ge
  clear O hv
  go_wp2
  go_loopw [8, 25] (fun s i wr => ∃ (k : Nat) (q : Int), k ≤ l.length ∧ i = .int .i64 k ∧ s = .int .i64 q ∧ Hid (q = sumK l r k) ∧ 0 ≤ q ∧ q ≤ 1000000 * k ∧ Hid (Own wr w.heap.size g c (sunK l r k)) ∧ Below w.heap.size w wr) (fun _ i _ => l.length - (intOf i).toNat)
  case atStart => exact ⟨0, 0, Nat.zero_le _, rfl, rfl, Lib.hid rfl, by omega, by omega, Lib.hid (by rw [sunK_zero]; exact HO0.out), HB⟩
  case round =>
    clear HB HO0
    obtain ⟨k, q, hk, rfl, rfl, HQ, q0, q1, HO, HB⟩ := hrel
    have O := HO.out; clear HO
    by_cases hlt : k < l.length
    · obtain ⟨x, hx⟩ : ∃ x, l[k] = x := ⟨_, rfl⟩
      have hoa := good_get HG.out hlt hx
      obtain ⟨ha0, ha1, hu0, hu1, hv0, hv1⟩ := okA_true hoa
      obtain ⟨d0, d1⟩ := dry_bd hoa r0 r1
      obtain ⟨d, hd⟩ : ∃ d, dry x r = d := ⟨_, rfl⟩
      rw [hd] at d0 d1
      have hlk : k < (sunK l r k).length := by rw [sunK_len]; exact hlt
      have hxk := sunK_at (r := r) hlt hx hlk
      have hset := sunK_set (r := r) hlt hx
      rw [hd] at hset
      have HNX := Lib.hid ((sumK_next hlt hx).trans (by rw [hd]))
      obtain ⟨c0, c1, c2⟩ := O.cells hlk hxk
      have HD := Lib.hid (show SunA.loss x.f1 x.f2 r x.f0 = d from hd)
      have HS := Lib.hid hset
      have HXK := Lib.hid hxk
      have HL := Lib.hid hlt
      have HLK := Lib.hid hlk
      have y1 : IntKind.i64.wrap (x.f1 - d) = x.f1 - d := IntWalk.i64_in _ (by omega)
      have y2 : IntKind.i64.wrap (q + d) = q + d := IntWalk.i64_in _ (by omega)
      clear hx hoa hd hset hxk
      go_wp2_with fail
      have B := Box.new HB [.int .i64 x.f0, .int .i64 x.f1, .int .i64 x.f2] 50 (g := wr.heap.size) rfl
      replace c1 := cell_kept c1 (al (Below.refl _ _) (o := (.cells #[.int .i64 x.f0, .int .i64 x.f1, .int .i64 x.f2] 50)))
      replace O := Own.keep O (al (Below.refl _ _) (o := (.cells #[.int .i64 x.f0, .int .i64 x.f1, .int .i64 x.f2] 50)))
      replace HB := be HB (al (Below.refl _ _) (o := (.cells #[.int .i64 x.f0, .int .i64 x.f1, .int .i64 x.f2] 50)))
      generalize (wr.alloc (.cells #[.int .i64 x.f0, .int .i64 x.f1, .int .i64 x.f2] 50)) = W1 at B c1 O HB ⊢
      have B_0 := B.cells 0 _ rfl
      have B_1 := B.cells 1 _ rfl
      have B_2 := B.cells 2 _ rfl
      have B_f0 := B.free 0 (by simp)
      have B_f1 := B.free 1 (by simp)
      have B_f2 := B.free 2 (by simp)
      have B_t := B.there
      clear c0 c2
      go_wp2_with fail
      refine (SunE.loss_impl x.f1 x.f2 x.f0 r hu0 hu1 hv0 hv1 r0 r1 ha0 ha1 _).mono ?_
      rintro e v2 ⟨rfl, hv2⟩
      clear B_0 B_1 B_2 B_f0 B_f1 B_f2 B_t
      replace B := B.more hv2
      replace c1 := cell_kept c1 hv2
      replace O := Own.keep O hv2
      replace HB := be HB hv2
      have zhv2 := hv2.size
      clear hv2
      have B_0 := B.cells 0 _ rfl
      have B_1 := B.cells 1 _ rfl
      have B_2 := B.cells 2 _ rfl
      have B_f0 := B.free 0 (by simp)
      have B_f1 := B.free 1 (by simp)
      have B_f2 := B.free 2 (by simp)
      have B_t := B.there
      rw [HD.out]
      have f1 := O.free (k * 3 + 1)
      have O2 := Lib.hid (O.putW HLK.out HXK.out (x.f1 - d))
      have HB2 := Lib.hid (B.below.setCell (p := ⟨g, k * 3 + 1, none⟩) hgw (.int .i64 (x.f1 - d)))
      clear O HB
      go_wp2
      go_roundw
      case rel => exact ⟨k + 1, q + d, HL.out, by go_num, rfl, Lib.hid (by rw [HNX.out, HQ.out]), by omega, by omega, Lib.hid (by have h := O2.out; rw [HS.out] at h; exact h), HB2.out⟩
      case measure => have := HL.out; simp [intOf]; omega
    · have hkk : k = l.length := by omega
      have hsl := sunK_len l r k
      have HE := Lib.hid (sunL_yes HV.out)
      have HQE := Lib.hid (show sunN l r = q by rw [HE.out.2, HQ.out, hkk])
      have HLE := Lib.hid (show sunL l r = sunK l r k by rw [HE.out.1, hkk])
      have HSL := Lib.hid hsl
      clear hkk hsl
      go_wp2
      go_ret3
      exact row2 HLE.out HQE.out HV.out (by rw [HSL.out] <;> rfl) O HB
end Go.Proofs.Ytciohcipmkhneaa.SerN
