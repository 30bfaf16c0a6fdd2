/- Ladders: WidestRung, JoinLadders. Made by tools/mk_ladv.py. -/
import Derived.Test.YtngominkeammiaaLadG
import Derived.Test.YtngominkeammiaaRegn3
import Derived.Lib.MinMax
import Derived.Deep.Cut
import Derived.Deep.CutBlock
import Derived.Deep.CutRange
import Derived.Deep.DeepCutAuto
namespace Go.Proofs.Ytngominkeammiaa.LadV
open Go.RowKit Go.Proofs.Ytngominkeammiaa.Mem Go.Proofs.Ytngominkeammiaa.Base Go.Proofs.Ytngominkeammiaa.Within Go.Proofs.Ytngominkeammiaa.Brine Go.Proofs.Ytngominkeammiaa.Regn Go.Proofs.Ytngominkeammiaa.Boxes Go.Proofs.Ytngominkeammiaa.Keep Go.Proofs.Ytngominkeammiaa.LadP Go.Proofs.Ytngominkeammiaa.LadS Go.Proofs.Ytngominkeammiaa.LadG
open Go.Proofs.Ytngominkeammiaa.SRung hiding RPost rpost
set_option linter.unusedVariables false
set_option linter.unusedSimpArgs false
set_option maxRecDepth 100000
theorem two_cells {x y : Int} : ∀ u ∈ [Value.int .i64 x, Value.int .i64 y], u.oneCell' = true := by
  intro u hu; simp at hu; rcases hu with rfl | rfl <;> rfl
theorem two_new (w : World) (x y : Value) (T : TypeId) : ∀ (j : Nat) (u : Value), [x, y][j]? = some u → (w.alloc (.cells #[x, y] T)).cell? (Addr.add ⟨w.heap.size, 0, none⟩ j) = some u := by
  intro j u hu
  match j, hu with
  | 0, hu => simp at hu; subst hu; simp [Addr.add]
  | 1, hu => simp at hu; subst hu; simp [Addr.add]
theorem own_len {w : World} {base c n : Nat} {A : Option Addr} {L : List R} (h : w.ownsRow base 54 2 (.slice A n c) n (flat L)) (e : L.length = n) : w.ownsRow base 54 2 (.slice A L.length c) L.length (flat L) := by rw [e]; exact h
def RowPost (L : List R) (q : Bool) (w : World) (e : Ending) (w' : World) : Prop :=
  ∃ A c, e = .returned (.tuple #[.slice A L.length c, .bool q]) ∧ w'.ownsRow w.heap.size 54 2 (.slice A L.length c) L.length (flat L) ∧ Below w.heap.size w w'
theorem row_mk {L M : List R} {q r : Bool} {w w' : World} {A : Option Addr} {c n : Nat} {v : Value} (hL : L = M) (hq : q = r) (hn : n = M.length) (h : v = .tuple #[.slice A n c, .bool r])
    (ho : w'.ownsRow w.heap.size 54 2 (.slice A n c) n (flat M)) (hB : Below w.heap.size w w') : RowPost L q w (.returned v) w' := by
  subst hL; subst hq; subst hn; exact ⟨A, c, by rw [h], ho, hB⟩
theorem rempty (u : World) (base : Nat) (hb : base ≤ u.heap.size) : (u.alloc (.cells #[] 54)).ownsRow base 54 2 (.slice (some ⟨u.heap.size, 0, none⟩) 0 0) 0 (flat []) := by
  have := World.ownsRow_lit u #[] 0 (e := 54) (size := 2) (base := base) hb (by unfold maxLen; omega) rfl
  simpa [flat] using this
theorem flat_snoc (l : List R) (x : R) : flat (l ++ [x]) = flat l ++ [.int .i64 x.f0, .int .i64 x.f1] := by unfold flat; rw [List.flatMap_append]; rfl
theorem row_snoc {w : World} {base c1 k : Nat} {A1 : Option Addr} {f : Nat → R} {p q : Int} (h : w.ownsRow base 54 2 (.slice A1 (k + 1) c1) (k + 1) (flat (tell k f) ++ [.int .i64 p, .int .i64 q])) (hf : f k = ⟨p, q⟩) : w.ownsRow base 54 2 (.slice A1 (k + 1) c1) (k + 1) (flat (tell (k + 1) f)) := by
  rw [← tell_snoc, flat_snoc, hf]; exact h
theorem most_max (p q : Int) : max p q = most p q := by unfold most; split <;> omega
theorem least_min' (p q : Int) : min p q = least p q := by unfold least; split <;> omega
set_option maxHeartbeats 1600000 in
theorem wid_spec (P : Option Addr) (cap : Nat) (l : List R) (w : World) (hr : Rd w w.heap.size P (flat l)) (hn : l.length ≤ 1048576) :
    Calls Try.prog 41 #[.slice P l.length cap] w (RPost (widV l) w) := by
  have HR := Lib.hid hr; clear hr
  go_enter Try.func41, Try.ntmps41
  go_wp2_with fail
  refine (good_spec P cap l w HR.out hn).mono ?_
  rintro e w1 ⟨rfl, HB⟩
  cases hg : good l
  · have HV := Lib.hid (wid_no hg)
    go_wp2
    go_ret2
    exact rpost (by rw [HV.out] <;> rfl) HB
  have HG := Lib.hid hg
  have h1 := (good_all hg).1
  clear hg
  go_wp2
  go_loopw [4, 5] (fun z i wr => ∃ k j : Nat, 1 ≤ k ∧ k ≤ l.length ∧ i = .int .i64 k ∧ z = .int .i64 j ∧ Hid (wid l k = j) ∧ j < l.length ∧ Below w.heap.size w wr) (fun _ i _ => l.length - (intOf i).toNat)
  case atStart => exact ⟨1, 0, Nat.le_refl _, h1, rfl, rfl, Lib.hid (wid_one l), by omega, HB⟩
  case round =>
    clear HB
    obtain ⟨k, j, hk1, hk, rfl, rfl, HJ, hj, HB⟩ := hrel
    by_cases hlt : k < l.length
    · obtain ⟨b, o, rfl, hb, hc⟩ := HR.out.at (k := k * 2) (by rw [flat_n]; omega)
      obtain ⟨x, hx⟩ : ∃ x, l[k] = x := ⟨_, rfl⟩
      obtain ⟨y, hy⟩ : ∃ y, l[j] = y := ⟨_, rfl⟩
      obtain ⟨x0, x1⟩ := cells2 (Below.refl _ w) hb hc hlt hx
      obtain ⟨y0, y1⟩ := cells2 (Below.refl _ w) hb hc hj hy
      obtain ⟨p0, p1, p2⟩ := okR_true (good_get HG.out hlt hx)
      obtain ⟨s0, s1, s2⟩ := okR_true (good_get HG.out hj hy)
      have e1 : IntKind.i64.wrap (x.f1 - x.f0) = x.f1 - x.f0 := IntWalk.i64_in _ (by omega)
      have e2 : IntKind.i64.wrap (y.f1 - y.f0) = y.f1 - y.f0 := IntWalk.i64_in _ (by omega)
      have i1 : (k : Int) < l.length := by omega
      have i2 : (j : Int) < l.length := by omega
      have HL := Lib.hid hlt
      have HN := Lib.hid (fun h : wd x > wd y => wid_new hlt hx (by rw [HJ.out]; exact hj) (by simp only [HJ.out]; exact hy) h)
      have HO := Lib.hid (fun h : ¬ wd x > wd y => (wid_old hlt hx (by rw [HJ.out]; exact hj) (by simp only [HJ.out]; exact hy) h).trans HJ.out)
      clear hx hy hc p0 p1 p2 s0 s1 s2
      have x0_c := ((bcell HB).1 _ _ hb).trans x0
      have x1_c := ((bcell HB).1 _ _ hb).trans x1
      have y0_c := ((bcell HB).1 _ _ hb).trans y0
      have y1_c := ((bcell HB).1 _ _ hb).trans y1
      go_wp2_with fail
      by_cases hw : y.f1 - y.f0 < x.f1 - x.f0
      · have hw1 : decide (y.f1 - y.f0 < x.f1 - x.f0) = true := decide_eq_true hw
        have HN1 := Lib.hid (HN.out hw)
        clear hw HN HO
        refine wp_region_text (fun w' => Below w.heap.size w w') (by kernel_rfl) (by kernel_rfl) (be HB (Below.refl _ _).drew) ?_
        clear x0_c
        clear x1_c
        clear y0_c
        clear y1_c
        iterate 23 (
          apply SeqH.one
          · intro uw K hS hK
            have qHB := hS
            have qx0_c := ((bcell qHB).1 _ _ hb).trans x0
            have qx1_c := ((bcell qHB).1 _ _ hb).trans x1
            have qy0_c := ((bcell qHB).1 _ _ hb).trans y0
            have qy1_c := ((bcell qHB).1 _ _ hb).trans y1
            first
              | (go_simp; exact hK.out _ qHB)
          try simp only [Act.put, List.setIfInBounds_toArray, List.set_cons_zero, List.set_cons_succ])
        refine SeqH.end' rfl ?_
        intro v1 hS
        clear HB
        have HB := hS; clear hS
        have x0_c := ((bcell HB).1 _ _ hb).trans x0
        have x1_c := ((bcell HB).1 _ _ hb).trans x1
        have y0_c := ((bcell HB).1 _ _ hb).trans y0
        have y1_c := ((bcell HB).1 _ _ hb).trans y1
        go_wp2
        go_roundw
        case rel => exact ⟨k + 1, k, by omega, HL.out, by go_num, rfl, HN1, HL.out, HB⟩
        case measure => have := HL.out; simp [intOf]; omega
      · have hw1 : decide (y.f1 - y.f0 < x.f1 - x.f0) = false := decide_eq_false hw
        have HN1 := Lib.hid (HO.out (by unfold wd; omega))
        clear hw HN HO
        refine wp_region_text (fun w' => Below w.heap.size w w') (by kernel_rfl) (by kernel_rfl) (be HB (Below.refl _ _).drew) ?_
        clear x0_c
        clear x1_c
        clear y0_c
        clear y1_c
        iterate 23 (
          apply SeqH.one
          · intro uw K hS hK
            have qHB := hS
            have qx0_c := ((bcell qHB).1 _ _ hb).trans x0
            have qx1_c := ((bcell qHB).1 _ _ hb).trans x1
            have qy0_c := ((bcell qHB).1 _ _ hb).trans y0
            have qy1_c := ((bcell qHB).1 _ _ hb).trans y1
            first
              | (go_simp; exact hK.out _ qHB)
          try simp only [Act.put, List.setIfInBounds_toArray, List.set_cons_zero, List.set_cons_succ])
        refine SeqH.end' rfl ?_
        intro v2 hS
        clear HB
        have HB := hS; clear hS
        have x0_c := ((bcell HB).1 _ _ hb).trans x0
        have x1_c := ((bcell HB).1 _ _ hb).trans x1
        have y0_c := ((bcell HB).1 _ _ hb).trans y0
        have y1_c := ((bcell HB).1 _ _ hb).trans y1
        go_wp2
        go_roundw
        case rel => exact ⟨k + 1, j, by omega, HL.out, by go_num, rfl, HN1, hj, HB⟩
        case measure => have := HL.out; simp [intOf]; omega
    · have HV := Lib.hid (wid_yes HG.out (show k = l.length by omega) HJ.out)
      go_wp2
      go_ret2
      exact rpost (by rw [HV.out] <;> rfl) HB
set_option maxHeartbeats 1600000 in
theorem wid_impl (P : Option Addr) (cap : Nat) (l : List R) (w : World) (hr : Rd w w.heap.size P (flat l)) (hcap : l.length ≤ cap) (hn : l.length ≤ 1048576) :
    Calls Try.prog 40 #[.slice P l.length cap] w (RPost (widV l) w) := by
  have HR := Lib.hid hr; clear hr
  go_enter Try.func40, Try.ntmps40
  go_wp2_with fail
  refine (good_impl P cap l w HR.out hn).mono ?_
  rintro e w1 ⟨rfl, HB⟩
  cases hg : good l
  · have HV := Lib.hid (wid_no hg)
    go_wp2
    go_ret2
    exact rpost (by rw [HV.out] <;> rfl) HB
  have HG := Lib.hid hg
  have h1 := (good_all hg).1
  clear hg
  go_wp2
  go_loopw [4, 12] (fun z i wr => ∃ k j : Nat, k ≤ l.length ∧ i = .int .i64 k ∧ z = .int .i64 j ∧ Hid (wid l k = j) ∧ j < l.length ∧ Below w.heap.size w wr) (fun _ i _ => l.length - (intOf i).toNat)
  case atStart => exact ⟨0, 0, Nat.zero_le _, rfl, rfl, Lib.hid rfl, by omega, HB⟩
  case round =>
    clear HB
    obtain ⟨k, j, hk, rfl, rfl, HJ, hj, HB0⟩ := hrel
    by_cases hlt : k < l.length
    · obtain ⟨b, o, rfl, hb, hc⟩ := HR.out.at (k := k * 2) (by rw [flat_n]; omega)
      obtain ⟨x, hx⟩ : ∃ x, l[k] = x := ⟨_, rfl⟩
      obtain ⟨y, hy⟩ : ∃ y, l[j] = y := ⟨_, rfl⟩
      obtain ⟨x0, x1⟩ := cells2 HB0 hb hc hlt hx
      obtain ⟨y0, y1⟩ := cells2 (Below.refl _ w) hb hc hj hy
      have HX := Lib.hid (good_get HG.out hlt hx)
      have HY := Lib.hid (good_get HG.out hj hy)
      have i1 : (k : Int) < l.length := by omega
      have i2 : (j : Int) < l.length := by omega
      have HL := Lib.hid hlt
      have HN := Lib.hid (fun h : wd x > wd y => wid_new hlt hx (by rw [HJ.out]; exact hj) (by simp only [HJ.out]; exact hy) h)
      have HO := Lib.hid (fun h : ¬ wd x > wd y => (wid_old hlt hx (by rw [HJ.out]; exact hj) (by simp only [HJ.out]; exact hy) h).trans HJ.out)
      clear hx hy hc
      go_upto_region 7 with fail
      have B := Box.new HB0 [.int .i64 x.f0, .int .i64 x.f1] 54 (g := wr.heap.size) rfl
      generalize (wr.alloc (.cells #[.int .i64 x.f0, .int .i64 x.f1] 54)) = W1 at B ⊢
      have B_0 := B.cells 0 _ rfl
      have B_1 := B.cells 1 _ rfl
      have B_f0 := B.free 0 (by simp)
      have B_f1 := B.free 1 (by simp)
      have B_t := B.there
      clear x0 x1
      have y0_c := ((bcell B.below).1 _ _ hb).trans y0
      have y1_c := ((bcell B.below).1 _ _ hb).trans y1
      by_cases hw : wd y < wd x
      · have hw1 : decide (wd y < wd x) = true := decide_eq_true hw
        have HN1 := Lib.hid (HN.out hw)
        clear hw HN HO
        refine wp_region_text (fun w' => Box (wr.heap.size) [.int .i64 x.f0, .int .i64 x.f1] w w') (by kernel_rfl) (by kernel_rfl) (B.drew) ?_
        clear B_0 B_1 B_f0 B_f1 B_t
        clear y0_c
        clear y1_c
        iterate 8 (
          apply SeqH.one
          · intro uw K hS hK
            have qB := hS
            have qB_0 := qB.cells 0 _ rfl
            have qB_1 := qB.cells 1 _ rfl
            have qy0_c := ((bcell qB.below).1 _ _ hb).trans y0
            have qy1_c := ((bcell qB.below).1 _ _ hb).trans y1
            first
              | (go_simp; exact hK.out _ qB)
              | (go_simp; go_at_call 84; (with_reducible refine (wd_impl x HX.out _).mono ?_); rintro e uw1 ⟨rfl, hv⟩; go_wp2_with fail; exact hK.out _ (qB.more hv))
              | (go_simp; go_at_call 84; (with_reducible refine (wd_impl y HY.out _).mono ?_); rintro e uw1 ⟨rfl, hv⟩; go_wp2_with fail; exact hK.out _ (qB.more hv))
          try simp only [Act.put, List.setIfInBounds_toArray, List.set_cons_zero, List.set_cons_succ])
        refine SeqH.end' rfl ?_
        intro v2 hS
        clear B
        have B := hS; clear hS
        have B_0 := B.cells 0 _ rfl
        have B_1 := B.cells 1 _ rfl
        have B_f0 := B.free 0 (by simp)
        have B_f1 := B.free 1 (by simp)
        have B_t := B.there
        have y0_c := ((bcell B.below).1 _ _ hb).trans y0
        have y1_c := ((bcell B.below).1 _ _ hb).trans y1
        go_wp2
        go_roundw
        case rel => exact ⟨k + 1, k, HL.out, by go_num, rfl, HN1, HL.out, B.below⟩
        case measure => have := HL.out; simp [intOf]; omega
      · have hw1 : decide (wd y < wd x) = false := decide_eq_false hw
        have HN1 := Lib.hid (HO.out (by omega))
        clear hw HN HO
        refine wp_region_text (fun w' => Box (wr.heap.size) [.int .i64 x.f0, .int .i64 x.f1] w w') (by kernel_rfl) (by kernel_rfl) (B.drew) ?_
        clear B_0 B_1 B_f0 B_f1 B_t
        clear y0_c
        clear y1_c
        iterate 8 (
          apply SeqH.one
          · intro uw K hS hK
            have qB := hS
            have qB_0 := qB.cells 0 _ rfl
            have qB_1 := qB.cells 1 _ rfl
            have qy0_c := ((bcell qB.below).1 _ _ hb).trans y0
            have qy1_c := ((bcell qB.below).1 _ _ hb).trans y1
            first
              | (go_simp; exact hK.out _ qB)
              | (go_simp; go_at_call 84; (with_reducible refine (wd_impl x HX.out _).mono ?_); rintro e uw1 ⟨rfl, hv⟩; go_wp2_with fail; exact hK.out _ (qB.more hv))
              | (go_simp; go_at_call 84; (with_reducible refine (wd_impl y HY.out _).mono ?_); rintro e uw1 ⟨rfl, hv⟩; go_wp2_with fail; exact hK.out _ (qB.more hv))
          try simp only [Act.put, List.setIfInBounds_toArray, List.set_cons_zero, List.set_cons_succ])
        refine SeqH.end' rfl ?_
        intro v3 hS
        clear B
        have B := hS; clear hS
        have B_0 := B.cells 0 _ rfl
        have B_1 := B.cells 1 _ rfl
        have B_f0 := B.free 0 (by simp)
        have B_f1 := B.free 1 (by simp)
        have B_t := B.there
        have y0_c := ((bcell B.below).1 _ _ hb).trans y0
        have y1_c := ((bcell B.below).1 _ _ hb).trans y1
        go_wp2
        go_roundw
        case rel => exact ⟨k + 1, j, HL.out, by go_num, rfl, HN1, hj, B.below⟩
        case measure => have := HL.out; simp [intOf]; omega
    · have HV := Lib.hid (wid_yes HG.out (show k = l.length by omega) HJ.out)
      go_wp2
      go_ret2
      exact rpost (by rw [HV.out] <;> rfl) HB0
set_option maxHeartbeats 1600000 in
theorem join_spec (P P' : Option Addr) (cap cap' : Nat) (l m : List R) (w : World) (hr : Rd w w.heap.size P (flat l)) (hr' : Rd w w.heap.size P' (flat m)) (hn : l.length ≤ 1048576) (hn' : m.length ≤ 1048576) :
    Calls Try.prog 17 #[.slice P l.length cap, .slice P' m.length cap'] w (RowPost (joinL l m) (joinOk l m) w) := by
  obtain ⟨i0, hi, hz0, hz1, hz2⟩ := info_parts info_T
  have HI := Lib.hid hz2; clear hz2
  have HI1 := Lib.hid hz1; clear hz1
  have HR := Lib.hid hr; have HS := Lib.hid hr'; clear hr hr'
  go_enter Try.func17, Try.ntmps17
  go_wp2_with fail
  have O := rempty w w.heap.size (Nat.le_refl _)
  have HB : Below w.heap.size w (w.alloc (.cells #[] 54)) := al (Below.refl _ w)
  generalize w.alloc (.cells #[] 54) = V at O HB ⊢
  refine (good_spec P cap l V (rd_keep HR.out HB) hn).mono ?_
  rintro e w1 ⟨rfl, hv⟩
  replace O := own_keep O hv; replace HB := be HB hv; clear hv
  cases hg : good l
  · have HV := Lib.hid (And.intro (joinL_no (join1 (m := m) hg)) (join1 (m := m) hg))
    go_wp2
    go_ret2
    exact row_mk HV.out.1 HV.out.2 rfl rfl O HB
  go_wp2_with fail
  refine (good_spec P' cap' m w1 (rd_keep HS.out HB) hn').mono ?_
  rintro e w2 ⟨rfl, hv⟩
  replace O := own_keep O hv; replace HB := be HB hv; clear hv
  cases hg2 : good m
  · have HV := Lib.hid (And.intro (joinL_no (join2 (l := l) hg2)) (join2 (l := l) hg2))
    go_wp2
    go_ret2
    exact row_mk HV.out.1 HV.out.2 rfl rfl O HB
  rcases Decidable.em (¬ l.length = m.length) with he | he
  · have HV := Lib.hid (And.intro (joinL_no (join3 he)) (join3 he))
    have hq : ((l.length : Int) != (m.length : Int)) = true := by rw [bne_iff_ne]; omega
    clear he
    go_wp2
    go_ret2
    exact row_mk HV.out.1 HV.out.2 rfl rfl O HB
  replace he := Decidable.not_not.1 he
  have hq : ((l.length : Int) != (m.length : Int)) = false := by rw [bne_eq_false_iff_eq]; omega
  have h8 := (good_all hg).2.1
  have HG := Lib.hid hg; have HG2 := Lib.hid hg2; have HE := Lib.hid he
  clear hg hg2 he
  go_wp2
  go_loopw [6, 7] (fun z i wr => ∃ (k : Nat) (A : Option Addr) (d : Nat), k ≤ l.length ∧ i = .int .i64 k ∧ z = .slice A k d ∧ wr.ownsRow w.heap.size 54 2 (.slice A k d) k (flat (tell k (jAt l m))) ∧ Below w.heap.size w wr) (fun _ i _ => l.length - (intOf i).toNat)
  case atStart => exact ⟨0, _, _, Nat.zero_le _, rfl, rfl, O, HB⟩
  case round =>
    clear O HB hq
    obtain ⟨k, A, d, hk, rfl, rfl, O, HB⟩ := hrel
    by_cases hlt : k < l.length
    · have HL := Lib.hid hlt
      have hlt2 : k < m.length := by have := HE.out; omega
      obtain ⟨b, o, rfl, hbl, hc⟩ := HR.out.at (k := k * 2) (by rw [flat_n]; omega)
      obtain ⟨b', o', rfl, hbl', hc'⟩ := HS.out.at (k := k * 2) (by rw [flat_n]; omega)
      obtain ⟨x, hx⟩ : ∃ x, l[k] = x := ⟨_, rfl⟩
      obtain ⟨y, hy⟩ : ∃ y, m[k] = y := ⟨_, rfl⟩
      obtain ⟨x0, x1⟩ := cells2 (Below.refl _ w) hbl hc hlt hx
      obtain ⟨y0, y1⟩ := cells2 (Below.refl _ w) hbl' hc' hlt2 hy
      have HJ := Lib.hid (jAt_at hlt hx hlt2 hy)
      have hm1 : k + 1 ≤ maxLen := by unfold maxLen; omega
      have hm2 : (k + 1) * 16 ≤ 140737488355328 := by omega
      have i1 : (k : Int) < l.length := by omega
      have i2 : (k : Int) < m.length := by omega
      clear hx hc hy hc'
      have x0_c := ((bcell HB).1 _ _ hbl).trans x0
      have x1_c := ((bcell HB).1 _ _ hbl).trans x1
      have y0_c := ((bcell HB).1 _ _ hbl').trans y0
      have y1_c := ((bcell HB).1 _ _ hbl').trans y1
      go_wp2_with fail
      clear x0_c
      clear x1_c
      clear y0_c
      clear y1_c
      obtain ⟨v1, hV1⟩ : ∃ V : World, V = wr.drew := ⟨_, rfl⟩
      replace HB : Below w.heap.size w v1 := by rw [hV1]; exact be HB (Below.refl _ _).drew
      replace O : v1.ownsRow (w.heap.size) 54 2 (.slice A k d) (k) (flat (tell k (jAt l m))) := by rw [hV1]; exact own_keep O (Below.refl _ _).drew
      refine wp_region_tail 25 (fun L w' => Pin (L 24) v1 (v1.alloc (.cells #[.int .i64 (most x.f0 y.f0), .int .i64 (least x.f1 y.f1)] 54)) w') (by kernel_rfl) (by kernel_rfl) (by kernel_rfl) (by rw [← hV1]; exact Pin.start _ _) ?_
      clear hV1
      have x0_c := ((bcell HB).1 _ _ hbl).trans x0
      have x1_c := ((bcell HB).1 _ _ hbl).trans x1
      have y0_c := ((bcell HB).1 _ _ hbl').trans y0
      have y1_c := ((bcell HB).1 _ _ hbl').trans y1
      simp only [List.take_succ_cons, List.take_zero]
      iterate 25 (
        apply SeqH.op
        · intro L uw K hN hS hK
          first
            | (go_simp; exact hK.out _ (hS.skip (by decide)))
            | (have hE := (hS.2 (hN.out.1 24 (by decide +kernel))).symm; subst hE; clear hN; first | (go_simp; exact hK.out _ (hS.skip (by decide))) | (go_simp; go_at_call 59; (with_reducible refine (most_any _ _ _).mono ?_); rintro e _ ⟨rfl, rfl⟩; go_wp2_with fail; exact hK.out _ (hS.skip (by decide))) | (go_simp; go_at_call 60; (with_reducible refine (least_any _ _ _).mono ?_); rintro e _ ⟨rfl, rfl⟩; go_wp2_with fail; exact hK.out _ (hS.skip (by decide))) | (go_simp; exact hK.out _ Pin.put))
            | (rcases hS.two with hE | hE <;> (subst hE; clear hN; first | (go_simp; exact hK.out _ (hS.skip (by decide))) | (go_simp; go_at_call 59; (with_reducible refine (most_any _ _ _).mono ?_); rintro e _ ⟨rfl, rfl⟩; go_wp2_with fail; exact hK.out _ (hS.skip (by decide))) | (go_simp; go_at_call 60; (with_reducible refine (least_any _ _ _).mono ?_); rintro e _ ⟨rfl, rfl⟩; go_wp2_with fail; exact hK.out _ (hS.skip (by decide)))))
        try simp only [Act.put, List.setIfInBounds_toArray, List.set_cons_zero, List.set_cons_succ])
      refine SeqH.rest' rfl ?_
      intro L uv hL hS
      have hE := (hS.1 (hL 24 (by decide))).symm
      subst hE
      clear hS hL
      simp only [List.drop_succ_cons, List.drop_zero]
      clear x0_c
      clear x1_c
      clear y0_c
      clear y1_c
      have hsz := HB.size
      go_wp2_with (at_builtin; go_must (refine wpList_append_own _ rfl _ _ 24 rfl w.heap.size 54 i0 _ 2 16 Try.underlying24 hi hz0 HI1.out HI.out rfl (by decide) _ k _ rfl (O.alloc _) ⟨v1.heap.size, 0, none⟩ 1 1 [.int .i64 (most x.f0 y.f0), .int .i64 (least x.f1 y.f1)] rfl rfl (two_new _ _ _ _) two_cells hm1 hm2 (by rw [size_alloc']; omega) ?_; intro v' w9 hown1 hgrow _))
      obtain ⟨A1, c1, rfl⟩ := own_form hown1
      have hO1 := row_snoc hown1 HJ.out
      have hB9 := below_append HB O hgrow
      clear hgrow hown1 HB O hm1 hm2 hsz
      go_wp2
      go_roundw
      case rel => exact ⟨k + 1, A1, c1, HL.out, by go_num, rfl, hO1, hB9⟩
      case measure => have := HL.out; simp [intOf]; omega
    · obtain rfl : k = l.length := by omega
      have hc := good_spec A d (jl l m) wr (Rd.of_own (own_len O (jl_len l m))) (by rw [jl_len]; omega)
      rw [jl_len] at hc
      have HC := Lib.hid hc; clear hc
      go_wp2_with fail
      refine HC.out.mono ?_
      rintro e w9 ⟨rfl, hv⟩
      replace O := own_keep O hv; replace HB := be HB hv; clear hv
      cases hgj : good (jl l m)
      · have HV := Lib.hid (And.intro (joinL_no (join4 hgj)) (join4 hgj))
        go_wp2
        go_ret2
        exact row_mk HV.out.1 HV.out.2 rfl rfl (rempty _ _ HB.size) (al HB)
      · have hok := join5 HG.out HG2.out HE.out hgj
        have HV := Lib.hid (And.intro (joinL_yes hok) hok)
        clear hok hgj
        go_wp2
        go_ret2
        exact row_mk HV.out.1 HV.out.2 (jl_len l m).symm rfl O HB
end Go.Proofs.Ytngominkeammiaa.LadV
