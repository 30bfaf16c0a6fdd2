/- Trips: OnTheWay. -/
import Derived.Test.YtknlgdahcfgbeaaTripL
namespace Go.Proofs.Ytknlgdahcfgbeaa.TripW
open Go.RowKit Go.Proofs.Ytknlgdahcfgbeaa.Mem Go.Proofs.Ytknlgdahcfgbeaa.Base Go.Proofs.Ytknlgdahcfgbeaa.Within Go.Proofs.Ytknlgdahcfgbeaa.STrip Go.Proofs.Ytknlgdahcfgbeaa.Regn Go.Proofs.Ytknlgdahcfgbeaa.Boxes Go.Proofs.Ytknlgdahcfgbeaa.Keep Go.Proofs.Ytknlgdahcfgbeaa.SInt Go.Proofs.Ytknlgdahcfgbeaa.RInt Go.Proofs.Ytknlgdahcfgbeaa.TripP Go.Proofs.Ytknlgdahcfgbeaa.TripS Go.Proofs.Ytknlgdahcfgbeaa.TripG Go.Proofs.Ytknlgdahcfgbeaa.TripL
set_option linter.unusedVariables false
set_option linter.unusedSimpArgs false
set_option maxRecDepth 100000
def onB (x : R) (m : Int) : Bool := inB m x.f3 (arr x - 1)
theorem onB_impl (x : R) (m : Int) : onB x m = (decide (x.f3 ≤ m) && decide (m < arr x)) := by
  unfold onB inB
  rw [Bool.eq_iff_iff, Bool.and_eq_true, decide_eq_true_eq, decide_eq_true_eq, decide_eq_true_eq]
  omega
def wayT (l : List R) (m : Int) (k : Nat) : List Int := ((l.take k).filter fun x => onB x m).map R.f0
theorem wayT_yes {l : List R} {m : Int} {k : Nat} {x : R} (h : k < l.length) (hx : l[k] = x) (hq : onB x m = true) : wayT l m (k + 1) = wayT l m k ++ [x.f0] := by
  unfold wayT; rw [List.take_succ_eq_append_getElem h, List.filter_append, hx, List.map_append]; simp [hq]
theorem wayT_no {l : List R} {m : Int} {k : Nat} {x : R} (h : k < l.length) (hx : l[k] = x) (hq : onB x m = false) : wayT l m (k + 1) = wayT l m k := by
  unfold wayT; rw [List.take_succ_eq_append_getElem h, List.filter_append, hx]; simp [hq]
def wayOk (l : List R) (m : Int) : Bool := good l && inB m 0 1440
def wayF (l : List R) (m : Int) : List Int := if wayOk l m = true then wayT l m l.length else []
theorem wayF_no {l : List R} {m : Int} (h : wayOk l m = false) : wayF l m = [] := by unfold wayF; rw [h]; rfl
theorem wayF_yes {l : List R} {m : Int} (h : wayOk l m = true) : wayF l m = wayT l m l.length := by unfold wayF; rw [if_pos h]
theorem way1 {l : List R} {m : Int} (h : good l = false) : wayOk l m = false := by unfold wayOk; rw [h]; rfl
theorem way2 {l : List R} {m : Int} (h : inB m 0 1440 = false) : wayOk l m = false := by unfold wayOk; rw [h, Bool.and_false]
theorem way3 {l : List R} {m : Int} (h : good l = true) (h1 : inB m 0 1440 = true) : wayOk l m = true := by unfold wayOk; rw [h, h1]; rfl
theorem way_len (l : List R) (m : Int) : (wayF l m).length ≤ 100 := by
  unfold wayF
  split
  · rename_i h
    unfold wayOk at h; rw [Bool.and_eq_true] at h
    have := (good_all h.1).1
    unfold wayT
    rw [List.length_map]
    have := List.length_filter_le (fun x => onB x m) (l.take l.length)
    rw [List.length_take] at this
    omega
  · simp
set_option maxHeartbeats 1600000 in
theorem way_spec (P : Option Addr) (cap : Nat) (l : List R) (m : Int) (w : World) (hr : Rd w w.heap.size P (flat l)) (hn : l.length ≤ 1048576) :
    Calls Try.prog 21 #[.slice P l.length cap, .int .i64 m] w (IPost (wayF l m) (wayOk l m) w) := by
  obtain ⟨i0, hi, hz0, hz1, hz2⟩ := info_parts info_int
  have HI := Lib.hid hz2; clear hz2
  have HI1 := Lib.hid hz1; clear hz1
  have HR := Lib.hid hr; clear hr
  go_enter Try.func21, Try.ntmps21
  go_wp2_with fail
  refine (good_spec P cap l _ ((HR.out.below (al (Below.refl _ _)) (Nat.le_refl _)).mono (by simp)) hn).mono ?_
  rintro e w1 ⟨rfl, hv⟩
  have O := own_keep (empty_own (Below.refl _ w)) hv
  have HB := be (al (Below.refl _ w) (o := .cells #[] 3)) hv
  clear hv
  cases hg : good l
  · have HV := Lib.hid (way1 (m := m) hg)
    go_wp2
    go_ret2
    exact i_mk (wayF_no HV.out) HV.out rfl O HB
  have HG := Lib.hid hg; clear hg
  cases hm : inB m 0 1440
  · have HV := Lib.hid (way2 (l := l) hm)
    go_wp2_with (go_at_call 48; (with_reducible refine (min_spec _ _).mono ?_); rintro e' w' ⟨rfl, rfl⟩)
    go_ret2
    exact i_mk (wayF_no HV.out) HV.out rfl O HB
  have HV := Lib.hid (way3 HG.out hm)
  obtain ⟨g10, gall⟩ := good_all HG.out
  have HA := Lib.hid gall; clear gall
  go_wp2_with (go_at_call 48; (with_reducible refine (min_spec _ _).mono ?_); rintro e' w' ⟨rfl, rfl⟩)
  clear hm
  go_loopw [6, 7] (fun z i wr => ∃ (k : Nat) (L : List Int) (A : Option Addr) (c : Nat), k ≤ l.length ∧ i = .int .i64 k ∧ z = .slice A L.length c ∧ Hid (wayT l m k = L) ∧ L.length ≤ k ∧ wr.ownsRow w.heap.size 3 1 (.slice A L.length c) L.length (iv L) ∧ Below w.heap.size w wr) (fun _ i _ => l.length - (intOf i).toNat)
  case atStart => exact ⟨0, [], _, _, Nat.zero_le _, rfl, rfl, Lib.hid rfl, Nat.le_refl _, O, HB⟩
  case round =>
    clear HB O
    obtain ⟨k, L, A, c, hk, rfl, rfl, HQ, hLk, O, HB⟩ := hrel
    by_cases hlt : k < l.length
    · obtain ⟨b, o, rfl, hb, hc⟩ := HR.out.at (k := k * 5) (by rw [flat_n]; omega)
      obtain ⟨x, hx⟩ : ∃ x, l[k] = x := ⟨_, rfl⟩
      obtain ⟨h0, h1, h2, h3, h4⟩ := cells5 (Below.refl _ _) hb hc hlt hx
      have HCC := Lib.hid hc; clear hc
      have hok := HA.out k hlt; rw [hx] at hok
      obtain ⟨a0, a1, a2, a3, a4, a5, a6, a7, a8, a9, a10, a11, a12⟩ := okT_true hok
      have HCA := Lib.hid (fun W => arr_spec x a2 a3 a4 a5 a7 a8 W)
      have y1 : IntKind.i64.wrap (arr x - 1) = arr x - 1 := IntWalk.i64_in _ (by omega)
      clear a0 a1 a2 a3 a4 a5 a6 a7 a8 a9 a10 a11 a12 hok
      have HX := Lib.hid hx; clear hx
      have HL := Lib.hid hlt
      cases he : onB x m
      · have HN := Lib.hid ((wayT_no HL.out HX.out he).trans HQ.out)
        have he2 : inB m x.f3 (arr x - 1) = false := he
        have HE := Lib.hid he; clear he
        go_wp2_with fail
        have h0_c := ((bcell HB).1 _ _ hb).trans h0
        have h1_c := ((bcell HB).1 _ _ hb).trans h1
        have h2_c := ((bcell HB).1 _ _ hb).trans h2
        have h3_c := ((bcell HB).1 _ _ hb).trans h3
        have h4_c := ((bcell HB).1 _ _ hb).trans h4
        refine wp_region_text (fun w' => Below w.heap.size w w' ∧ w'.ownsRow (w.heap.size) 3 1 (.slice A L.length c) (L.length) (iv L)) (by kernel_rfl) (by kernel_rfl) ⟨be HB (Below.refl _ _).drew, own_keep O (Below.refl _ _).drew⟩ ?_
        clear h0_c
        clear h1_c
        clear h2_c
        clear h3_c
        clear h4_c
        iterate 13 (
          apply SeqH.one
          · intro uw K hS hK
            obtain ⟨qHB, qO⟩ := hS
            have qh0_c := ((bcell qHB).1 _ _ hb).trans h0
            have qh1_c := ((bcell qHB).1 _ _ hb).trans h1
            have qh2_c := ((bcell qHB).1 _ _ hb).trans h2
            have qh3_c := ((bcell qHB).1 _ _ hb).trans h3
            have qh4_c := ((bcell qHB).1 _ _ hb).trans h4
            first
              | (go_simp; exact hK.out _ ⟨qHB, qO⟩)
              | (go_simp; go_at_call 28; (with_reducible refine (HCA.out _).mono ?_); rintro e uw1 ⟨rfl, hv⟩; go_wp2_with fail; exact hK.out _ ⟨be qHB hv, own_keep qO hv⟩)
              | (go_simp; go_at_call 49; (with_reducible refine (in_any _ _ _ _).mono ?_); rintro e _ ⟨rfl, rfl⟩; rw [he2]; go_wp2_with fail; exact hK.out _ ⟨qHB, qO⟩)
          try simp only [Act.put, List.setIfInBounds_toArray, List.set_cons_zero, List.set_cons_succ])
        refine SeqH.end' rfl ?_
        intro v1 hS
        clear HB O
        obtain ⟨HB, O⟩ := hS
        have h0_c := ((bcell HB).1 _ _ hb).trans h0
        have h1_c := ((bcell HB).1 _ _ hb).trans h1
        have h2_c := ((bcell HB).1 _ _ hb).trans h2
        have h3_c := ((bcell HB).1 _ _ hb).trans h3
        have h4_c := ((bcell HB).1 _ _ hb).trans h4
        go_wp2
        go_roundw
        case rel => exact ⟨k + 1, L, A, c, HL.out, by go_num, rfl, HN, by omega, O, HB⟩
        case measure => have := HL.out; simp [intOf]; omega
      · have HN := Lib.hid ((wayT_yes HL.out HX.out he).trans (by rw [HQ.out]))
        have he2 : inB m x.f3 (arr x - 1) = true := he
        have HE := Lib.hid he; clear he
        go_wp2_with fail
        have h0_c := ((bcell HB).1 _ _ hb).trans h0
        have h1_c := ((bcell HB).1 _ _ hb).trans h1
        have h2_c := ((bcell HB).1 _ _ hb).trans h2
        have h3_c := ((bcell HB).1 _ _ hb).trans h3
        have h4_c := ((bcell HB).1 _ _ hb).trans h4
        refine wp_region_text (fun w' => Below w.heap.size w w' ∧ w'.ownsRow (w.heap.size) 3 1 (.slice A L.length c) (L.length) (iv L)) (by kernel_rfl) (by kernel_rfl) ⟨be HB (Below.refl _ _).drew, own_keep O (Below.refl _ _).drew⟩ ?_
        clear h0_c
        clear h1_c
        clear h2_c
        clear h3_c
        clear h4_c
        iterate 13 (
          apply SeqH.one
          · intro uw K hS hK
            obtain ⟨qHB, qO⟩ := hS
            have qh0_c := ((bcell qHB).1 _ _ hb).trans h0
            have qh1_c := ((bcell qHB).1 _ _ hb).trans h1
            have qh2_c := ((bcell qHB).1 _ _ hb).trans h2
            have qh3_c := ((bcell qHB).1 _ _ hb).trans h3
            have qh4_c := ((bcell qHB).1 _ _ hb).trans h4
            first
              | (go_simp; exact hK.out _ ⟨qHB, qO⟩)
              | (go_simp; go_at_call 28; (with_reducible refine (HCA.out _).mono ?_); rintro e uw1 ⟨rfl, hv⟩; go_wp2_with fail; exact hK.out _ ⟨be qHB hv, own_keep qO hv⟩)
              | (go_simp; go_at_call 49; (with_reducible refine (in_any _ _ _ _).mono ?_); rintro e _ ⟨rfl, rfl⟩; rw [he2]; go_wp2_with fail; exact hK.out _ ⟨qHB, qO⟩)
          try simp only [Act.put, List.setIfInBounds_toArray, List.set_cons_zero, List.set_cons_succ])
        refine SeqH.end' rfl ?_
        intro v1 hS
        clear HB O
        obtain ⟨HB, O⟩ := hS
        have h0_c := ((bcell HB).1 _ _ hb).trans h0
        have h1_c := ((bcell HB).1 _ _ hb).trans h1
        have h2_c := ((bcell HB).1 _ _ hb).trans h2
        have h3_c := ((bcell HB).1 _ _ hb).trans h3
        have h4_c := ((bcell HB).1 _ _ hb).trans h4
        clear h0 h1 h2 h3 h4
        obtain ⟨h0, h1, h2, h3, h4⟩ := cells5 HB hb HCC.out hlt HX.out
        have hm1 : L.length + 1 ≤ maxLen := by unfold maxLen; omega
        have hm2 : (L.length + 1) * 8 ≤ 140737488355328 := by omega
        have HHB := Lib.hid HB.size
        clear he2
        go_wp2_with (at_builtin; go_must (refine wpList_append_own _ rfl _ _ 34 rfl w.heap.size 3 i0 _ 1 8 Try.underlying34 hi hz0 HI1.out HI.out rfl (by decide) _ L.length _ rfl (O.alloc _) ⟨v1.heap.size, 0, none⟩ 1 1 [.int .i64 x.f0] rfl rfl (cell_one_new _ _ _) (one_cell rfl) hm1 hm2 (by rw [size_alloc']; have := HHB.out; omega) ?_; intro v' w9 hown1 hgrow _))
        obtain ⟨A1, c1, rfl⟩ := own_form hown1
        have HO1 := row_app (x := x.f0) hown1
        have HB9 := bl_grown (al HB (o := .cells #[.int .i64 x.f0] 3)) hgrow (fun j hj => own_ge O j hj)
        clear hgrow hown1 hm1 hm2 O HB
        go_roundw
        case rel => exact ⟨k + 1, L ++ [x.f0], A1, c1, HL.out, by go_num, by rw [List.length_append] <;> rfl, HN, by rw [List.length_append]; simp; omega, HO1, HB9⟩
        case measure => have := HL.out; simp [intOf]; omega
    · have HF := Lib.hid (show wayF l m = L by rw [wayF_yes HV.out]; have := HQ.out; rwa [show k = l.length by omega] at this)
      go_wp2
      go_ret2
      exact i_mk HF.out HV.out rfl O HB
set_option maxHeartbeats 1600000 in
theorem way_impl (P : Option Addr) (cap : Nat) (l : List R) (m : Int) (w : World) (hr : Rd w w.heap.size P (flat l)) (hcp : l.length ≤ cap) (hn : l.length ≤ 1048576) :
    Calls Try.prog 20 #[.slice P l.length cap, .int .i64 m] w (IPost (wayF l m) (wayOk l m) w) := by
  obtain ⟨i0, hi, hz0, hz1, hz2⟩ := info_parts info_int
  have HI := Lib.hid hz2; clear hz2
  have HI1 := Lib.hid hz1; clear hz1
  have HR := Lib.hid hr; clear hr
  go_enter Try.func20, Try.ntmps20
  go_wp2_with fail
  refine (are_impl P cap l w HR.out hn).mono ?_
  rintro e w1 ⟨rfl, HB⟩
  have O := empty_own HB
  cases hg : good l
  · have HV := Lib.hid (way1 (m := m) hg)
    go_wp2
    go_ret2
    exact i_mk (wayF_no HV.out) HV.out rfl O (al HB)
  have HG := Lib.hid hg; clear hg
  cases hm : inB m 0 1440
  · have HV := Lib.hid (way2 (l := l) hm)
    go_wp2_with (go_at_call 31; (with_reducible refine (within_any _ _ _ _).mono ?_); rintro e' w' ⟨rfl, rfl⟩)
    go_ret2
    exact i_mk (wayF_no HV.out) HV.out rfl O (al HB)
  have HV := Lib.hid (way3 HG.out hm)
  obtain ⟨g10, gall⟩ := good_all HG.out
  have HA := Lib.hid gall; clear gall
  go_wp2_with (go_at_call 31; (with_reducible refine (within_any _ _ _ _).mono ?_); rintro e' w' ⟨rfl, rfl⟩)
  clear hm
  go_loopw [6, 21] (fun z i wr => ∃ (k : Nat) (L : List Int) (A : Option Addr) (c : Nat), k ≤ l.length ∧ i = .int .i64 k ∧ z = .slice A L.length c ∧ Hid (wayT l m k = L) ∧ L.length ≤ k ∧ wr.ownsRow w.heap.size 3 1 (.slice A L.length c) L.length (iv L) ∧ Below w.heap.size w wr) (fun _ i _ => l.length - (intOf i).toNat)
  case atStart => exact ⟨0, [], _, _, Nat.zero_le _, rfl, rfl, Lib.hid rfl, Nat.le_refl _, O, al HB⟩
  case round =>
    clear HB O
    obtain ⟨k, L, A, c, hk, rfl, rfl, HQ, hLk, O, HB0⟩ := hrel
    by_cases hlt : k < l.length
    · obtain ⟨b, o, rfl, hb, hc⟩ := HR.out.at (k := k * 5) (by rw [flat_n]; omega)
      obtain ⟨x, hx⟩ : ∃ x, l[k] = x := ⟨_, rfl⟩
      obtain ⟨h0, h1, h2, h3, h4⟩ := cells5 HB0 hb hc hlt hx
      clear hc
      have hok := HA.out k hlt; rw [hx] at hok
      obtain ⟨a0, a1, a2, a3, a4, a5, a6, a7, a8, a9, a10, a11, a12⟩ := okT_true hok
      have HCA := Lib.hid (fun W => arr_impl x a2 a3 a4 a5 a7 a8 W)
      clear a0 a1 a2 a3 a4 a5 a6 a7 a8 a9 a10 a11 a12 hok
      have HX := Lib.hid hx; clear hx
      have HL := Lib.hid hlt
      have HE := Lib.hid (onB_impl x m)
      cases he : decide (x.f3 ≤ m)
      · have HN := Lib.hid ((wayT_no HL.out HX.out (by rw [HE.out, he]; rfl)).trans HQ.out)
        go_wp2
        go_roundw
        case rel => exact ⟨k + 1, L, A, c, HL.out, by go_num, rfl, HN, by omega, own_keep O (al (Below.refl _ _)), al HB0⟩
        case measure => have := HL.out; simp [intOf]; omega
      · go_wp2_with fail
        have B := Box.new HB0 [.int .i64 x.f0, .int .i64 x.f1, .int .i64 x.f2, .int .i64 x.f3, .int .i64 x.f4] 25 (g := wr.heap.size) rfl
        replace O := own_keep O (al (Below.refl _ _) (o := (.cells #[.int .i64 x.f0, .int .i64 x.f1, .int .i64 x.f2, .int .i64 x.f3, .int .i64 x.f4] 25)))
        generalize (wr.alloc (.cells #[.int .i64 x.f0, .int .i64 x.f1, .int .i64 x.f2, .int .i64 x.f3, .int .i64 x.f4] 25)) = W1 at B O ⊢
        have B_0 := B.cells 0 _ rfl
        have B_1 := B.cells 1 _ rfl
        have B_2 := B.cells 2 _ rfl
        have B_3 := B.cells 3 _ rfl
        have B_4 := B.cells 4 _ rfl
        have B_f0 := B.free 0 (by simp)
        have B_f1 := B.free 1 (by simp)
        have B_f2 := B.free 2 (by simp)
        have B_f3 := B.free 3 (by simp)
        have B_f4 := B.free 4 (by simp)
        have B_t := B.there
        clear h0 h1 h2 h3 h4
        go_wp2_with fail
        refine (HCA.out _).mono ?_
        rintro e v2 ⟨rfl, hv2⟩
        clear B_0 B_1 B_2 B_3 B_4 B_f0 B_f1 B_f2 B_f3 B_f4 B_t
        replace B := B.more hv2
        replace O := own_keep O hv2
        have zhv2 := hv2.size
        clear hv2
        have B_0 := B.cells 0 _ rfl
        have B_1 := B.cells 1 _ rfl
        have B_2 := B.cells 2 _ rfl
        have B_3 := B.cells 3 _ rfl
        have B_4 := B.cells 4 _ rfl
        have B_f0 := B.free 0 (by simp)
        have B_f1 := B.free 1 (by simp)
        have B_f2 := B.free 2 (by simp)
        have B_f3 := B.free 3 (by simp)
        have B_f4 := B.free 4 (by simp)
        have B_t := B.there
        cases hc : decide (m < arr x)
        · have HN := Lib.hid ((wayT_no HL.out HX.out (by rw [HE.out, he, hc]; rfl)).trans HQ.out)
          go_wp2
          go_roundw
          case rel => exact ⟨k + 1, L, A, c, HL.out, by go_num, rfl, HN, by omega, O, B.below⟩
          case measure => have := HL.out; simp [intOf]; omega
        · have HN := Lib.hid ((wayT_yes HL.out HX.out (by rw [HE.out, he, hc]; rfl)).trans (by rw [HQ.out]))
          have hm1 : L.length + 1 ≤ maxLen := by unfold maxLen; omega
          have hm2 : (L.length + 1) * 8 ≤ 140737488355328 := by omega
          have HHB := Lib.hid B.below.size
          go_wp2_with (at_builtin; go_must (refine wpList_append_own _ rfl _ _ 34 rfl w.heap.size 3 i0 _ 1 8 Try.underlying34 hi hz0 HI1.out HI.out rfl (by decide) _ L.length _ rfl (O.alloc _) ⟨v2.heap.size, 0, none⟩ 1 1 [.int .i64 x.f0] rfl rfl (cell_one_new _ _ _) (one_cell rfl) hm1 hm2 (by rw [size_alloc']; have := HHB.out; omega) ?_; intro v' w9 hown1 hgrow _))
          obtain ⟨A1, c1, rfl⟩ := own_form hown1
          have HO1 := row_app (x := x.f0) hown1
          have HB9 := bl_grown (al B.below (o := .cells #[.int .i64 x.f0] 3)) hgrow (fun j hj => own_ge O j hj)
          clear hgrow hown1 hm1 hm2 O B
          go_roundw
          case rel => exact ⟨k + 1, L ++ [x.f0], A1, c1, HL.out, by go_num, by rw [List.length_append] <;> rfl, HN, by rw [List.length_append]; simp; omega, HO1, HB9⟩
          case measure => have := HL.out; simp [intOf]; omega
    · have HF := Lib.hid (show wayF l m = L by rw [wayF_yes HV.out]; have := HQ.out; rwa [show k = l.length by omega] at this)
      go_wp2
      go_ret2
      exact i_mk HF.out HV.out rfl O HB0
end Go.Proofs.Ytknlgdahcfgbeaa.TripW
