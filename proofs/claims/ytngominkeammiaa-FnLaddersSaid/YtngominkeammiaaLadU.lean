/- Ladders: impl.JoinLadders, EvenLadder. Made by tools/mk_ladv.py. -/
import Derived.Test.YtngominkeammiaaLadV
import Derived.Test.YtngominkeammiaaRegn3
import Derived.Lib.MinMax
import Derived.Deep.Cut
import Derived.Deep.CutBlock
import Derived.Deep.CutRange
import Derived.Deep.DeepCutAuto
namespace Go.Proofs.Ytngominkeammiaa.LadU
open Go.RowKit Go.Proofs.Ytngominkeammiaa.Mem Go.Proofs.Ytngominkeammiaa.Base Go.Proofs.Ytngominkeammiaa.Within Go.Proofs.Ytngominkeammiaa.Brine Go.Proofs.Ytngominkeammiaa.Regn Go.Proofs.Ytngominkeammiaa.Boxes Go.Proofs.Ytngominkeammiaa.Keep Go.Proofs.Ytngominkeammiaa.LadP Go.Proofs.Ytngominkeammiaa.LadS Go.Proofs.Ytngominkeammiaa.LadG Go.Proofs.Ytngominkeammiaa.LadV
open Go.Proofs.Ytngominkeammiaa.SRung hiding RPost rpost
set_option linter.unusedVariables false
set_option linter.unusedSimpArgs false
set_option maxRecDepth 100000
theorem cell_kept {w w' : World} {b o : Nat} {v : Value} (h : w.cell? ⟨b, o, none⟩ = some v) (hb : Below w.heap.size w w') : w'.cell? ⟨b, o, none⟩ = some v :=
  ((bcell hb).1 _ _ (by
    rcases Nat.lt_or_ge b w.heap.size with hl | hl
    · exact hl
    · have : w.heap[b]? = none := Array.getElem?_eq_none hl
      simp [World.cell?, this] at h)).trans h
theorem box_more {g : Nat} {cs : List Value} {w W V : World} (h : Box g cs w W) (hb : Below W.heap.size W V) : Box g cs w V := h.more hb
set_option maxHeartbeats 1600000 in
theorem join_impl (P P' : Option Addr) (cap cap' : Nat) (l m : List R) (w : World) (hr : Rd w w.heap.size P (flat l)) (hr' : Rd w w.heap.size P' (flat m)) (hn : l.length ≤ 1048576) (hn' : m.length ≤ 1048576) :
    Calls Try.prog 16 #[.slice P l.length cap, .slice P' m.length cap'] w (RowPost (joinL l m) (joinOk l m) w) := by
  obtain ⟨i0, hi, hz0, hz1, hz2⟩ := info_parts info_T
  have HI := Lib.hid hz2; clear hz2
  have HI1 := Lib.hid hz1; clear hz1
  have HR := Lib.hid hr; have HS := Lib.hid hr'; clear hr hr'
  go_enter Try.func16, Try.ntmps16
  go_wp2_with fail
  refine (good_impl P cap l w HR.out hn).mono ?_
  rintro e w1 ⟨rfl, HB⟩
  cases hg : good l
  · have HV := Lib.hid (And.intro (joinL_no (join1 (m := m) hg)) (join1 (m := m) hg))
    go_wp2
    go_ret2
    exact row_mk HV.out.1 HV.out.2 rfl rfl (rempty _ _ HB.size) (al HB)
  go_wp2_with fail
  refine (good_impl P' cap' m w1 (rd_keep HS.out HB) hn').mono ?_
  rintro e w2 ⟨rfl, hv⟩
  replace HB := be HB hv; clear hv
  cases hg2 : good m
  · have HV := Lib.hid (And.intro (joinL_no (join2 (l := l) hg2)) (join2 (l := l) hg2))
    go_wp2
    go_ret2
    exact row_mk HV.out.1 HV.out.2 rfl rfl (rempty _ _ HB.size) (al HB)
  rcases Decidable.em (¬ l.length = m.length) with he | he
  · have HV := Lib.hid (And.intro (joinL_no (join3 he)) (join3 he))
    have hq : ((l.length : Int) != (m.length : Int)) = true := by rw [bne_iff_ne]; omega
    clear he
    go_wp2
    go_ret2
    exact row_mk HV.out.1 HV.out.2 rfl rfl (rempty _ _ HB.size) (al HB)
  replace he := Decidable.not_not.1 he
  have hq : ((l.length : Int) != (m.length : Int)) = false := by rw [bne_eq_false_iff_eq]; omega
  have h8 := (good_all hg).2.1
  have HG := Lib.hid hg; have HG2 := Lib.hid hg2; have HE := Lib.hid he
  clear hg hg2 he
  have c1 : i0.bytes * l.length ≤ 281474976710656 := by rw [HI.out]; omega
  have c2 : l.length ≤ maxLen := by unfold maxLen; omega
  have hsz := HB.size
  go_wp2_with (at_make; go_must (refine wpList_make_full _ rfl _ _ 24 rfl w.heap.size 54 i0 _ 2 Try.underlying24 hi hz0 HI1.out _ _ _ _ l.length rfl rfl rfl rfl c1 c2 hsz ?_; intro w3 hown1 hg1))
  have hB1 : Below w.heap.size w w3 := HB.grown hg1 hsz (by intro k hk; cases hk)
  have O : w3.ownsRow w.heap.size 54 2 (.slice (some ⟨w2.heap.size, 0, none⟩) l.length l.length) l.length (flat (half zero (jl l m) 0)) := by
    rw [half_zero, jl_len, ← made]; exact hown1
  clear hown1 hg1 c1 c2 HB hq
  obtain ⟨g, hgg⟩ : ∃ g, w2.heap.size = g := ⟨_, rfl⟩
  rw [hgg] at O hsz ⊢
  clear hgg
  go_loopw [29] (fun i wr => ∃ k : Nat, k ≤ l.length ∧ i = .int .i64 k ∧ wr.ownsRow w.heap.size 54 2 (.slice (some ⟨g, 0, none⟩) l.length l.length) l.length (flat (half zero (jl l m) k)) ∧ Below w.heap.size w wr) (fun i _ => l.length - (intOf i).toNat)
  case atStart => exact ⟨0, Nat.zero_le _, rfl, O, hB1⟩
  case round =>
    clear O hB1
    obtain ⟨k, hk, rfl, O, HB⟩ := hrel
    by_cases hlt : k < l.length
    · have HL := Lib.hid hlt
      have hlt2 : k < m.length := by have := HE.out; omega
      obtain ⟨b, o, rfl, hbl, hc⟩ := HR.out.at (k := k * 2) (by rw [flat_n]; omega)
      obtain ⟨b', o', rfl, hbl', hc'⟩ := HS.out.at (k := k * 2) (by rw [flat_n]; omega)
      obtain ⟨x, hx⟩ : ∃ x, l[k] = x := ⟨_, rfl⟩
      obtain ⟨y, hy⟩ : ∃ y, m[k] = y := ⟨_, rfl⟩
      obtain ⟨x0, x1⟩ := cells2 (Below.refl _ w) hbl hc hlt hx
      obtain ⟨y0, y1⟩ := cells2 (Below.refl _ w) hbl' hc' hlt2 hy
      have hj := jAt_at hlt hx hlt2 hy
      have hlj : k < (jl l m).length := by rw [jl_len]; exact hlt
      have HST := Lib.hid (show ((flat (half zero (jl l m) k)).set (k * 2) (.int .i64 (max x.f0 y.f0))).set (k * 2 + 1) (.int .i64 (min x.f1 y.f1)) = flat (half zero (jl l m) (k + 1)) by
        have h := flat_set (half zero (jl l m) k) k (jl l m)[k] (by rw [half_len _ _ _ (by omega)]; exact hlj)
        rw [half_set _ _ _ hlj] at h
        rw [← h, most_max, least_min']
        have e : (jl l m)[k] = ⟨most x.f0 y.f0, least x.f1 y.f1⟩ := (tell_get hlj).trans hj
        rw [e])
      have HF := Lib.hid (show (flat (half zero (jl l m) k)).length = l.length * 2 by rw [flat_n, half_len _ _ _ (by omega), jl_len])
      have i1 : (k : Int) < l.length := by omega
      have i2 : (k : Int) < m.length := by omega
      clear hx hc hy hc' hj hlj
      have x0_c := ((bcell HB).1 _ _ hbl).trans x0
      have x1_c := ((bcell HB).1 _ _ hbl).trans x1
      have y0_c := ((bcell HB).1 _ _ hbl').trans y0
      have y1_c := ((bcell HB).1 _ _ hbl').trans y1
      go_wp2_with fail
      clear x0_c
      clear x1_c
      clear y0_c
      clear y1_c
      obtain ⟨v1, hV1⟩ : ∃ V : World, V = wr.drew := ⟨_, rfl⟩
      replace HB : Below w.heap.size w v1 := by rw [hV1]; exact be HB (Below.refl _ _).drew
      replace O : v1.ownsRow (w.heap.size) 54 2 (.slice (some ⟨g, 0, none⟩) l.length l.length) (l.length) (flat (half zero (jl l m) k)) := by rw [hV1]; exact own_keep O (Below.refl _ _).drew
      refine wp_region_last 26 (fun w' => v1 = w') (by kernel_rfl) (by kernel_rfl) (by kernel_rfl) hV1 ?_
      clear hV1
      have x0_c := ((bcell HB).1 _ _ hbl).trans x0
      have x1_c := ((bcell HB).1 _ _ hbl).trans x1
      have y0_c := ((bcell HB).1 _ _ hbl').trans y0
      have y1_c := ((bcell HB).1 _ _ hbl').trans y1
      simp only [List.take_succ_cons, List.take_zero]
      iterate 26 (
        apply SeqH.one
        · intro uw K hS hK
          subst hS
          first
            | (go_simp; exact hK.out _ rfl)
        try simp only [Act.put, List.setIfInBounds_toArray, List.set_cons_zero, List.set_cons_succ])
      refine SeqH.rest rfl ?_
      intro uv hS
      subst hS
      simp only [List.drop_succ_cons, List.drop_zero]
      clear x0_c
      clear x1_c
      clear y0_c
      clear y1_c
      have hz : k * 2 + 2 ≤ l.length * 2 := by have := Nat.mul_le_mul_right 2 (show k + 1 ≤ l.length by omega); rw [Nat.succ_mul] at this; exact this
      obtain ⟨q0, m0⟩ : ∃ u, v1.cell? ⟨g, k * 2, none⟩ = some u :=
        ⟨_, (O.cellAt (k * 2) (by omega)).trans (List.getElem?_eq_getElem (by rw [HF.out]; omega))⟩
      have g0 : v1.frozen? ⟨g, k * 2, none⟩ = false := O.frozenAt _
      obtain ⟨q1, m1⟩ : ∃ u, v1.cell? ⟨g, k * 2 + 1, none⟩ = some u :=
        ⟨_, (O.cellAt (k * 2 + 1) (by omega)).trans (List.getElem?_eq_getElem (by rw [HF.out]; omega))⟩
      have g1 : v1.frozen? ⟨g, k * 2 + 1, none⟩ = false := O.frozenAt _
      have O2 := ((O.stored (k * 2) (.int .i64 (max x.f0 y.f0))).1.stored (k * 2 + 1) (.int .i64 (min x.f1 y.f1))).1
      have HB2 := (HB.setCell (p := ⟨g, k * 2, none⟩) hsz (.int .i64 (max x.f0 y.f0))).setCell (p := ⟨g, k * 2 + 1, none⟩) hsz (.int .i64 (min x.f1 y.f1))
      clear hz O HB
      go_wp2
      go_roundw
      case rel => exact ⟨k + 1, HL.out, by go_num, by rw [← HST.out]; exact O2, HB2⟩
      case measure => have := HL.out; simp [intOf]; omega
    · obtain rfl : k = l.length := by omega
      have O1 : wr.ownsRow w.heap.size 54 2 (.slice (some ⟨g, 0, none⟩) l.length l.length) l.length (flat (jl l m)) := by
        have e := half_full zero (jl l m)
        rw [jl_len] at e
        rw [e] at O; exact O
      have hc := good_impl (some ⟨g, 0, none⟩) l.length (jl l m) wr (Rd.of_own (own_len O1 (jl_len l m))) (by rw [jl_len]; omega)
      rw [jl_len] at hc
      have HC := Lib.hid hc; clear hc O
      go_wp2_with fail
      refine HC.out.mono ?_
      rintro e w9 ⟨rfl, hv⟩
      replace O1 := own_keep O1 hv; replace HB := be HB hv; clear hv
      cases hgj : good (jl l m)
      · have HV := Lib.hid (And.intro (joinL_no (join4 hgj)) (join4 hgj))
        go_wp2
        go_ret2
        exact row_mk HV.out.1 HV.out.2 rfl rfl (rempty _ _ HB.size) (al HB)
      · have hok := join5 HG.out HG2.out HE.out hgj
        have HV := Lib.hid (And.intro (joinL_yes hok) hok)
        clear hok hgj
        go_wp2
        go_ret2
        exact row_mk HV.out.1 HV.out.2 (jl_len l m).symm rfl O1 HB
set_option maxHeartbeats 1600000 in
theorem even_spec (n0 lo hi : Int) (w : World) :
    Calls Try.prog 38 #[.int .i64 n0, .int .i64 lo, .int .i64 hi] w (RowPost (evenL n0 lo hi) (evOk n0 lo hi) w) := by
  obtain ⟨i0, hi9, hz0, hz1, hz2⟩ := info_parts info_T
  have HI := Lib.hid hz2; clear hz2
  have HI1 := Lib.hid hz1; clear hz1
  have hi' := Lib.hid hi9
  go_enter Try.func38, Try.ntmps38
  cases hn : inB n0 1 8
  · have HV := Lib.hid (And.intro (evenL_no (ev1 (lo := lo) (hi := hi) hn)) (ev1 (lo := lo) (hi := hi) hn))
    go_wp2_with (go_at_call 82; (with_reducible refine (in_any _ _ _ _).mono ?_); rintro e' w' ⟨rfl, rfl⟩)
    go_ret2
    exact row_mk HV.out.1 HV.out.2 rfl rfl (rempty _ _ (Nat.le_refl _)) (al (Below.refl _ _))
  cases hl : inB lo 0 hi
  · have hb := bad_in (x := ⟨lo, hi⟩) hl
    have HV := Lib.hid (And.intro (evenL_no (ev2 (n := n0) hb)) (ev2 (n := n0) hb))
    clear hb
    go_wp2_with (go_at_call 82; (with_reducible refine (in_any _ _ _ _).mono ?_); rintro e' w' ⟨rfl, rfl⟩)
    go_ret2
    exact row_mk HV.out.1 HV.out.2 rfl rfl (rempty _ _ (Nat.le_refl _)) (al (Below.refl _ _))
  rcases Int.lt_or_le 1000 hi with ht | ht
  · have hb := bad_top (x := ⟨lo, hi⟩) (show ¬ hi ≤ 1000 by omega)
    have HV := Lib.hid (And.intro (evenL_no (ev2 (n := n0) hb)) (ev2 (n := n0) hb))
    have ht1 : decide (1000 < hi) = true := decide_eq_true ht
    clear hb ht
    go_wp2_with (go_at_call 82; (with_reducible refine (in_any _ _ _ _).mono ?_); rintro e' w' ⟨rfl, rfl⟩)
    go_ret2
    exact row_mk HV.out.1 HV.out.2 rfl rfl (rempty _ _ (Nat.le_refl _)) (al (Below.refl _ _))
  have ht1 : decide (1000 < hi) = false := decide_eq_false (by omega)
  have hok := ev3 hn (ok_both (x := ⟨lo, hi⟩) hl ht)
  have hn' := of_inB hn
  obtain ⟨n, rfl⟩ : ∃ n : Nat, n0 = n := ⟨n0.toNat, by omega⟩
  have h8 : n ≤ 8 := by omega
  have h1 : 1 ≤ n := by omega
  have HOK := Lib.hid hok
  have HV := Lib.hid (And.intro (evenL_yes hok rfl) hok)
  have HP := Lib.hid (ev_parts hok)
  clear hok ht hn'
  go_wp2_with (go_at_call 82; (with_reducible refine (in_any _ _ _ _).mono ?_); rintro e' w' ⟨rfl, rfl⟩)
  go_loopw [8, 9] (fun z i wr => ∃ (k : Nat) (A : Option Addr) (d : Nat), k ≤ n ∧ i = .int .i64 k ∧ z = .slice A k d ∧ wr.ownsRow w.heap.size 54 2 (.slice A k d) k (flat (tell k (evR n lo hi))) ∧ Below w.heap.size w wr) (fun _ i _ => n - (intOf i).toNat)
  case atStart => exact ⟨0, _, _, Nat.zero_le _, rfl, rfl, rempty w _ (Nat.le_refl _), al (Below.refl _ _)⟩
  case round =>
    obtain ⟨k, A, d, hk, rfl, rfl, O, HB⟩ := hrel
    by_cases hlt : k < n
    · have HL := Lib.hid hlt
      have hm1 : k + 1 ≤ maxLen := by unfold maxLen; omega
      have hm2 : (k + 1) * 16 ≤ 140737488355328 := by omega
      obtain ⟨_, _, l0, l1, l2⟩ := HP.out
      have y0 : IntKind.i64.wrap ((k : Int) + 1) = (k : Int) + 1 := IntWalk.i64_in _ (by omega)
      have hp0 := ev_prod (i := k) HOK.out (by omega)
      have hb0 := ev_bd (i := k) HOK.out (by omega)
      have y1 : IntKind.i64.wrap (hi - lo) = hi - lo := IntWalk.i64_in _ (by omega)
      have y2 : IntKind.i64.wrap ((hi - lo) * (k : Int)) = (hi - lo) * (k : Int) := IntWalk.i64_in _ (by omega)
      have y3 : ((hi - lo) * (k : Int)).tdiv (n : Int) = (hi - lo) * (k : Int) / (n : Int) := Int.tdiv_eq_ediv_of_nonneg (by omega)
      have y4 : IntKind.i64.wrap ((hi - lo) * (k : Int) / (n : Int)) = (hi - lo) * (k : Int) / (n : Int) := IntWalk.i64_in _ (by omega)
      have y5 : IntKind.i64.wrap (lo + (hi - lo) * (k : Int) / (n : Int)) = lo + (hi - lo) * (k : Int) / (n : Int) := IntWalk.i64_in _ (by omega)
      have n1 : ¬ (n : Int) = 0 := by omega
      have n2 : ((n : Int) == 0) = false := beq_eq_false_iff_ne.2 n1
      have n3 : ¬ n = 0 := by omega
      have hp1 := ev_prod (i := k + 1) HOK.out (by omega)
      have hb1 := ev_bd (i := k + 1) HOK.out (by omega)
      rw [show ((k + 1 : Nat) : Int) = (k : Int) + 1 by omega] at hp1 hb1
      have z2 : IntKind.i64.wrap ((hi - lo) * ((k : Int) + 1)) = (hi - lo) * ((k : Int) + 1) := IntWalk.i64_in _ (by omega)
      have z3 : ((hi - lo) * ((k : Int) + 1)).tdiv (n : Int) = (hi - lo) * ((k : Int) + 1) / (n : Int) := Int.tdiv_eq_ediv_of_nonneg (by omega)
      have z4 : IntKind.i64.wrap ((hi - lo) * ((k : Int) + 1) / (n : Int)) = (hi - lo) * ((k : Int) + 1) / (n : Int) := IntWalk.i64_in _ (by omega)
      have z5 : IntKind.i64.wrap (lo + (hi - lo) * ((k : Int) + 1) / (n : Int)) = lo + (hi - lo) * ((k : Int) + 1) / (n : Int) := IntWalk.i64_in _ (by omega)
      have HEV := Lib.hid (show evR n lo hi k = ⟨lo + (hi - lo) * (k : Int) / (n : Int), lo + (hi - lo) * ((k : Int) + 1) / (n : Int)⟩ by
        have e : ((k + 1 : Nat) : Int) = (k : Int) + 1 := by omega
        unfold evR evE; rw [e])
      obtain ⟨e1, he1⟩ : ∃ e1, lo + (hi - lo) * ((k : Int) + 1) / (n : Int) = e1 := ⟨_, rfl⟩
      replace z5 := z5.trans he1
      rw [he1] at HEV
      clear hp1 hb1 he1
      obtain ⟨e0, he0⟩ : ∃ e0, lo + (hi - lo) * (k : Int) / (n : Int) = e0 := ⟨_, rfl⟩
      replace y5 := y5.trans he0
      rw [he0] at HEV
      clear hp0 hb0 he0 l0 l1 l2
      go_wp2_with fail
      obtain ⟨v1, hV1⟩ : ∃ V : World, V = wr.drew := ⟨_, rfl⟩
      replace HB : Below w.heap.size w v1 := by rw [hV1]; exact be HB (Below.refl _ _).drew
      replace O : v1.ownsRow (w.heap.size) 54 2 (.slice A k d) (k) (flat (tell k (evR n lo hi))) := by rw [hV1]; exact own_keep O (Below.refl _ _).drew
      refine wp_region_tail 22 (fun L w' => Pin (L 21) v1 (v1.alloc (.cells #[.int .i64 e0, .int .i64 e1] 54)) w') (by kernel_rfl) (by kernel_rfl) (by kernel_rfl) (by rw [← hV1]; exact Pin.start _ _) ?_
      clear hV1
      simp only [List.take_succ_cons, List.take_zero]
      iterate 22 (
        apply SeqH.op
        · intro L uw K hN hS hK
          first
            | (go_simp; exact hK.out _ (hS.skip (by decide)))
            | (have hE := (hS.2 (hN.out.1 21 (by decide +kernel))).symm; subst hE; clear hN; first | (go_simp; exact hK.out _ (hS.skip (by decide))) | (go_simp; exact hK.out _ Pin.put))
            | (rcases hS.two with hE | hE <;> (subst hE; clear hN; first | (go_simp; exact hK.out _ (hS.skip (by decide)))))
        try simp only [Act.put, List.setIfInBounds_toArray, List.set_cons_zero, List.set_cons_succ])
      refine SeqH.rest' rfl ?_
      intro L uv hL hS
      have hE := (hS.1 (hL 21 (by decide))).symm
      subst hE
      clear hS hL
      simp only [List.drop_succ_cons, List.drop_zero]
      have hsz := HB.size
      go_wp2_with (at_builtin; go_must (refine wpList_append_own _ rfl _ _ 24 rfl w.heap.size 54 i0 _ 2 16 Try.underlying24 hi'.out hz0 HI1.out HI.out rfl (by decide) _ k _ rfl (O.alloc _) ⟨v1.heap.size, 0, none⟩ 1 1 [.int .i64 e0, .int .i64 e1] rfl rfl (two_new _ _ _ _) two_cells hm1 hm2 (by rw [size_alloc']; omega) ?_; intro v' w9 hown1 hgrow _))
      obtain ⟨A1, c1, rfl⟩ := own_form hown1
      have hO1 := row_snoc hown1 HEV.out
      have hB9 := below_append HB O hgrow
      clear hgrow hown1 HB O hm1 hm2 hsz
      go_wp2
      go_roundw
      case rel => exact ⟨k + 1, A1, c1, HL.out, by go_num, rfl, hO1, hB9⟩
      case measure => have := HL.out; simp [intOf]; omega
    · obtain rfl : k = n := by omega
      go_wp2
      go_ret2
      exact row_mk HV.out.1 HV.out.2 (tell_len _ _).symm rfl O HB
/-- the ends of an even ladder's rungs, the first k of the nine set. -/
def endsV (n lo hi : Int) (k : Nat) : List Value := (List.range 9).map fun i => .int .i64 (if i < k then evE n lo hi i else 0)
theorem ends_at {n lo hi : Int} {k i : Nat} (h : i < 9) : (endsV n lo hi k)[i]? = some (.int .i64 (if i < k then evE n lo hi i else 0)) := by
  unfold endsV; simp [h]
theorem ends_len (n lo hi : Int) (k : Nat) : (endsV n lo hi k).length = 9 := by simp [endsV]
theorem ends_set {n lo hi : Int} {k : Nat} (h : k < 9) {e : Int} (he : e = evE n lo hi k) : (endsV n lo hi k).set k (.int .i64 e) = endsV n lo hi (k + 1) := by
  subst he
  apply List.ext_getElem?
  intro i
  rw [List.getElem?_set]
  split
  · rename_i e; subst e
    rw [if_pos (by rw [ends_len]; exact h), ends_at h, if_pos (by omega)]
  · rename_i e
    by_cases hi9 : i < 9
    · rw [ends_at hi9, ends_at hi9]
      by_cases h1 : i < k
      · rw [if_pos h1, if_pos (by omega)]
      · rw [if_neg h1, if_neg (by omega)]
    · rw [List.getElem?_eq_none (by rw [ends_len]; omega), List.getElem?_eq_none (by rw [ends_len]; omega)]
set_option maxHeartbeats 3200000 in
theorem even_impl (n0 lo hi : Int) (w : World) :
    Calls Try.prog 37 #[.int .i64 n0, .int .i64 lo, .int .i64 hi] w (RowPost (evenL n0 lo hi) (evOk n0 lo hi) w) := by
  obtain ⟨i0, hi9, hz0, hz1, hz2⟩ := info_parts info_T
  have HI := Lib.hid hz2; clear hz2
  have HI1 := Lib.hid hz1; clear hz1
  have hi' := Lib.hid hi9
  go_enter Try.func37, Try.ntmps37
  cases hn : inB n0 1 8
  · have HV := Lib.hid (And.intro (evenL_no (ev1 (lo := lo) (hi := hi) hn)) (ev1 (lo := lo) (hi := hi) hn))
    go_wp2_with (go_at_call 61; (with_reducible refine (within_any _ _ _ _).mono ?_); rintro e' w' ⟨rfl, rfl⟩)
    go_ret2
    exact row_mk HV.out.1 HV.out.2 rfl rfl (rempty _ _ (Nat.le_refl _)) (al (Below.refl _ _))
  have HI1R := Lib.hid (fun u => one_impl ⟨lo, hi⟩ u)
  go_wp2_with fail
  refine (within_any _ _ _ _).mono ?_
  rintro e' w' ⟨rfl, rfl⟩
  rw [hn]
  go_wp2_with fail
  refine (HI1R.out _).mono ?_
  rintro e' w1 ⟨rfl, HB⟩
  cases hr : okR ⟨lo, hi⟩
  · have HV := Lib.hid (And.intro (evenL_no (ev2 (n := n0) hr)) (ev2 (n := n0) hr))
    go_wp2
    go_ret2
    exact row_mk HV.out.1 HV.out.2 rfl rfl (rempty _ _ HB.size) (al HB)
  have hok := ev3 hn hr
  have hn' := of_inB hn
  obtain ⟨n, rfl⟩ : ∃ n : Nat, n0 = n := ⟨n0.toNat, by omega⟩
  have h8 : n ≤ 8 := by omega
  have h1 : 1 ≤ n := by omega
  have HOK := Lib.hid hok
  have HV := Lib.hid (And.intro (evenL_yes hok rfl) hok)
  have HP := Lib.hid (ev_parts hok)
  have y9 : IntKind.i64.wrap ((n : Int) + 1) = (n : Int) + 1 := IntWalk.i64_in _ (by omega)
  clear hok hn'
  go_wp2_with fail
  have E : Box w1.heap.size (endsV n lo hi 0) w (w1.alloc (.cells #[.int .i64 0, .int .i64 0, .int .i64 0, .int .i64 0, .int .i64 0, .int .i64 0, .int .i64 0, .int .i64 0, .int .i64 0] 100)) := Box.new HB (endsV n lo hi 0) 100 rfl
  go_loopw [25] (fun i wr => ∃ k : Nat, k ≤ n + 1 ∧ i = .int .i64 k ∧ Box w1.heap.size (endsV n lo hi k) w wr) (fun i _ => n + 1 - (intOf i).toNat)
  case atStart => exact ⟨0, Nat.zero_le _, rfl, E⟩
  case round =>
    clear E
    obtain ⟨k, hk, rfl, E⟩ := hrel
    have HBW := Lib.hid HB
    by_cases hlt : k < n + 1
    · have HL := Lib.hid hlt
      obtain ⟨_, _, l0, l1, l2⟩ := HP.out
      have y0 : IntKind.i64.wrap ((k : Int) + 1) = (k : Int) + 1 := IntWalk.i64_in _ (by omega)
      have hp0 := ev_prod (i := k) HOK.out (by omega)
      have hb0 := ev_bd (i := k) HOK.out (by omega)
      have y1 : IntKind.i64.wrap (hi - lo) = hi - lo := IntWalk.i64_in _ (by omega)
      have y2 : IntKind.i64.wrap ((hi - lo) * (k : Int)) = (hi - lo) * (k : Int) := IntWalk.i64_in _ (by omega)
      have y3 : ((hi - lo) * (k : Int)).tdiv (n : Int) = (hi - lo) * (k : Int) / (n : Int) := Int.tdiv_eq_ediv_of_nonneg (by omega)
      have y4 : IntKind.i64.wrap ((hi - lo) * (k : Int) / (n : Int)) = (hi - lo) * (k : Int) / (n : Int) := IntWalk.i64_in _ (by omega)
      have y5 : IntKind.i64.wrap (lo + (hi - lo) * (k : Int) / (n : Int)) = lo + (hi - lo) * (k : Int) / (n : Int) := IntWalk.i64_in _ (by omega)
      have n1 : ¬ (n : Int) = 0 := by omega
      have n2 : ((n : Int) == 0) = false := beq_eq_false_iff_ne.2 n1
      have n3 : ¬ n = 0 := by omega
      obtain ⟨e0, he0⟩ : ∃ e0, lo + (hi - lo) * (k : Int) / (n : Int) = e0 := ⟨_, rfl⟩
      replace y5 := y5.trans he0
      have HS := Lib.hid (ends_set (n := n) (lo := lo) (hi := hi) (k := k) (by omega) (e := e0) he0.symm)
      have k0 := E.cells k _ (ends_at (by omega))
      have k1 := E.free k (by rw [ends_len]; omega)
      have k2 : (k : Int) < 9 := by omega
      have k3 : (k : Int) < (n : Int) + 1 := by omega
      have HE := Lib.hid (E.set k (.int .i64 e0))
      clear hp0 hb0 he0 l0 l1 l2 E
      go_wp2
      go_roundw
      case rel => exact ⟨k + 1, HL.out, by go_num, by rw [← HS.out]; exact HE.out⟩
      case measure => have := HL.out; simp [intOf]; omega
    · obtain rfl : k = n + 1 := by omega
      have c1 : i0.bytes * n ≤ 281474976710656 := by rw [HI.out]; omega
      have c2 : n ≤ maxLen := by unfold maxLen; omega
      have hsz : w1.heap.size + 1 ≤ wr.heap.size := E.there
      have hbase := HB.size
      go_wp2_with (at_make; go_must (refine wpList_make_full _ rfl _ _ 24 rfl (w1.heap.size + 1) 54 i0 _ 2 Try.underlying24 hi'.out hz0 HI1.out _ _ _ _ n rfl rfl rfl rfl c1 c2 hsz ?_; intro w3 hown1 hg1))
      have E2 := box_grown E hg1 (by intro k hk; cases hk)
      have O : w3.ownsRow (w1.heap.size + 1) 54 2 (.slice (some ⟨wr.heap.size, 0, none⟩) n n) n (flat (half zero (tell n (evR n lo hi)) 0)) := by
        rw [half_zero, tell_len, ← made]; exact hown1
      clear hown1 hg1 c1 c2 HB E
      obtain ⟨g, hgg⟩ : ∃ g, wr.heap.size = g := ⟨_, rfl⟩
      rw [hgg] at O hsz ⊢
      clear hgg
      generalize w1.heap.size = gE at *
      go_loopw [44] (fun i wr => ∃ k : Nat, k ≤ n ∧ i = .int .i64 k ∧ wr.ownsRow (gE + 1) 54 2 (.slice (some ⟨g, 0, none⟩) n n) n (flat (half zero (tell n (evR n lo hi)) k)) ∧ Box gE (endsV n lo hi (n + 1)) w wr) (fun i _ => n - (intOf i).toNat)
      case atStart => exact ⟨0, Nat.zero_le _, rfl, O, E2⟩
      case round =>
        clear O E2
        obtain ⟨k, hk, rfl, O, E⟩ := hrel
        by_cases hlt : k < n
        · have HL := Lib.hid hlt
          have hlj : k < (tell n (evR n lo hi)).length := by rw [tell_len]; exact hlt
          obtain ⟨e0, he0⟩ : ∃ e0, evE n lo hi k = e0 := ⟨_, rfl⟩
          obtain ⟨e1, he1⟩ : ∃ e1, evE n lo hi (k + 1) = e1 := ⟨_, rfl⟩
          have k0 := E.cells k _ (ends_at (by omega))
          rw [if_pos (by omega), he0] at k0
          have k1 := E.cells (k + 1) _ (ends_at (by omega))
          rw [if_pos (by omega), he1] at k1
          have HST := Lib.hid (show ((flat (half zero (tell n (evR n lo hi)) k)).set (k * 2) (.int .i64 e0)).set (k * 2 + 1) (.int .i64 e1) = flat (half zero (tell n (evR n lo hi)) (k + 1)) by
            have h := flat_set (half zero (tell n (evR n lo hi)) k) k (tell n (evR n lo hi))[k] (by rw [half_len _ _ _ (by omega)]; exact hlj)
            rw [half_set _ _ _ hlj] at h
            rw [← h]
            have e : (tell n (evR n lo hi))[k] = ⟨e0, e1⟩ := (tell_get hlj).trans (by rw [← he0, ← he1]; rfl)
            rw [e])
          have HF := Lib.hid (show (flat (half zero (tell n (evR n lo hi)) k)).length = n * 2 by rw [flat_n, half_len _ _ _ (by omega), tell_len])
          have k2 : (k : Int) < 9 := by omega
          have k3 : (k : Int) + 1 < 9 := by omega
          have k4 : (k : Int) < n := by omega
          have k5 : IntKind.i64.wrap ((k : Int) + 1) = (k : Int) + 1 := IntWalk.i64_in _ (by omega)
          have k6 : ((k : Int) + 1).toNat = k + 1 := by omega
          have k7 : decide ((k : Int) + 1 < 0) = false := decide_eq_false (by omega)
          have k8 : ¬ ((k : Int) + 1 < 0) := by omega
          have k9 : (0 : Int) ≤ (k : Int) + 1 := by omega
          clear he0 he1 hlj
          go_wp2_with fail
          obtain ⟨v1, hV1⟩ : ∃ V : World, V = wr.drew := ⟨_, rfl⟩
          replace k0 : v1.cell? ⟨gE, k, none⟩ = some (.int .i64 e0) := by rw [hV1]; exact cell_kept k0 (Below.refl _ _).drew
          replace k1 : v1.cell? ⟨gE, k + 1, none⟩ = some (.int .i64 e1) := by rw [hV1]; exact cell_kept k1 (Below.refl _ _).drew
          replace E : Box gE (endsV n lo hi (n + 1)) w v1 := by rw [hV1]; exact box_more E (Below.refl _ _).drew
          replace O : v1.ownsRow (gE + 1) 54 2 (.slice (some ⟨g, 0, none⟩) n n) n (flat (half zero (tell n (evR n lo hi)) k)) := by rw [hV1]; exact own_keep O (Below.refl _ _).drew
          refine wp_region_last 11 (fun w' => v1 = w') (by kernel_rfl) (by kernel_rfl) (by kernel_rfl) hV1 ?_
          clear hV1
          simp only [List.take_succ_cons, List.take_zero]
          iterate 11 (
            apply SeqH.one
            · intro uw K hS hK
              subst hS
              first
                | (go_simp; exact hK.out _ rfl)
            try simp only [Act.put, List.setIfInBounds_toArray, List.set_cons_zero, List.set_cons_succ])
          refine SeqH.rest rfl ?_
          intro uv hS
          subst hS
          simp only [List.drop_succ_cons, List.drop_zero]
          have hz : k * 2 + 2 ≤ n * 2 := by have := Nat.mul_le_mul_right 2 (show k + 1 ≤ n by omega); rw [Nat.succ_mul] at this; exact this
          obtain ⟨q0, m0⟩ : ∃ u, v1.cell? ⟨g, k * 2, none⟩ = some u :=
            ⟨_, (O.cellAt (k * 2) (by omega)).trans (List.getElem?_eq_getElem (by rw [HF.out]; omega))⟩
          have g0 : v1.frozen? ⟨g, k * 2, none⟩ = false := O.frozenAt _
          obtain ⟨q1, m1⟩ : ∃ u, v1.cell? ⟨g, k * 2 + 1, none⟩ = some u :=
            ⟨_, (O.cellAt (k * 2 + 1) (by omega)).trans (List.getElem?_eq_getElem (by rw [HF.out]; omega))⟩
          have g1 : v1.frozen? ⟨g, k * 2 + 1, none⟩ = false := O.frozenAt _
          have O2 := ((O.stored (k * 2) (.int .i64 (e0))).1.stored (k * 2 + 1) (.int .i64 (e1))).1
          have E2 := (E.far (k := g) (by have := E.base; omega) (by omega) (k * 2) (.int .i64 e0)).far (k := g) (by have := E.base; omega) (by omega) (k * 2 + 1) (.int .i64 e1)
          clear hz O E k0 k1
          go_wp2
          go_roundw
          case rel => exact ⟨k + 1, HL.out, by go_num, by rw [← HST.out]; exact O2, E2⟩
          case measure => have := HL.out; simp [intOf]; omega
        · obtain rfl : k = n := by omega
          have O1 : wr.ownsRow (gE + 1) 54 2 (.slice (some ⟨g, 0, none⟩) k k) k (flat (tell k (evR k lo hi))) := by
            have e := half_full zero (tell k (evR k lo hi))
            rw [tell_len] at e
            rw [e] at O; exact O
          go_wp2
          go_ret2
          exact row_mk HV.out.1 HV.out.2 (tell_len _ _).symm rfl (own_base O1 (by have := E.base; omega)) E.below
end Go.Proofs.Ytngominkeammiaa.LadU
