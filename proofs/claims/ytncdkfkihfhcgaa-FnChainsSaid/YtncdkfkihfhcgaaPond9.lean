/- NeighborsOf: the model's and the program's. -/
import Derived.Test.YtncdkfkihfhcgaaPond8
import Derived.Test.YtncdkfkihfhcgaaSInt
namespace Go.Proofs.Ytncdkfkihfhcgaa.Pond9
open Go.RowKit Go.Proofs.Ytncdkfkihfhcgaa.Mem Go.Proofs.Ytncdkfkihfhcgaa.Base Go.Proofs.Ytncdkfkihfhcgaa.Within Go.Proofs.Ytncdkfkihfhcgaa.SPond Go.Proofs.Ytncdkfkihfhcgaa.Regn Go.Proofs.Ytncdkfkihfhcgaa.Boxes Go.Proofs.Ytncdkfkihfhcgaa.Pond Go.Proofs.Ytncdkfkihfhcgaa.Pond2 Go.Proofs.Ytncdkfkihfhcgaa.Pond3 Go.Proofs.Ytncdkfkihfhcgaa.Pond4 Go.Proofs.Ytncdkfkihfhcgaa.IPond Go.Proofs.Ytncdkfkihfhcgaa.IPond2 Go.Proofs.Ytncdkfkihfhcgaa.Pond6 Go.Proofs.Ytncdkfkihfhcgaa.SInt
set_option linter.unusedVariables false
set_option maxRecDepth 100000
theorem info_int : (Try.prog.info? 3).map (fun i => (i.zero, i.size, i.bytes)) = some (some (.int .i64 0), 1, 8) := by kernel_rfl
/-- the numbers of those of l that have a bank with x. -/
def nb (x : R) (l : List R) : List Int := (l.filter fun y => decide (0 < bank x y)).map R.f0
theorem nb_yes (x : R) (l : List R) (k : Nat) (h : k < l.length) (hb : 0 < bank x l[k]) : nb x (l.take (k + 1)) = nb x (l.take k) ++ [l[k].f0] := by
  unfold nb; rw [List.take_succ_eq_append_getElem h, List.filter_append]; simp [hb]
theorem nb_no (x : R) (l : List R) (k : Nat) (h : k < l.length) (hb : ¬ 0 < bank x l[k]) : nb x (l.take (k + 1)) = nb x (l.take k) := by
  unfold nb; rw [List.take_succ_eq_append_getElem h, List.filter_append]; simp [show ¬ 0 < bank x l[k] from hb]
theorem nb_len (x : R) (l : List R) : (nb x l).length ≤ l.length := by unfold nb; rw [List.length_map]; exact List.length_filter_le _ _
def nbs (l : List R) (id : Int) : List Int := if 0 ≤ find l id then nb (at_ l (find l id)) l else []
theorem nbs_no {l : List R} {id : Int} (h : ¬ 0 ≤ find l id) : nbs l id = [] := by unfold nbs; rw [if_neg h]
theorem nbs_yes {l : List R} {id : Int} {k : Nat} {x : R} (h : find l id = k) (hk : k < l.length) (hx : l[k] = x) : nbs l id = nb x l := by
  unfold nbs at_; rw [if_pos (by omega), h, Int.toNat_natCast, getD_at hk, hx]
def NbPost (L : List Int) (q : Bool) (w : World) (e : Ending) (w' : World) : Prop :=
  ∃ A c, e = .returned (.tuple #[.slice A L.length c, .bool q]) ∧ w'.ownsRow w.heap.size 3 1 (.slice A L.length c) L.length (iv L) ∧ Below w.heap.size w w'
theorem nb_mk {L M : List Int} {q r : Bool} {w w' : World} {A : Option Addr} {c : Nat} {v : Value} (hL : L = M) (hq : q = r) (h : v = .tuple #[.slice A M.length c, .bool r])
    (ho : w'.ownsRow w.heap.size 3 1 (.slice A M.length c) M.length (iv M)) (hB : Below w.heap.size w w') : NbPost L q w (.returned v) w' := by
  subst hL; subst hq; exact ⟨A, c, by rw [h], ho, hB⟩
theorem empty_own {w u : World} (hb : Below w.heap.size w u) : (u.alloc (.cells #[] 3)).ownsRow w.heap.size 3 1 (.slice (some ⟨u.heap.size, 0, none⟩) 0 0) 0 (iv []) := by
  have := World.ownsRow_lit u #[] 0 (e := 3) (size := 1) (base := w.heap.size) hb.size (by unfold maxLen; omega) rfl
  simpa [iv] using this
set_option maxHeartbeats 1000000 in
theorem nb_impl (P : Option Addr) (cap : Nat) (l : List R) (id : Int) (w : World) (hr : Rd w w.heap.size P (flat l)) (hcap : l.length ≤ cap) (hn : l.length ≤ 1048576) :
    Calls Try.prog 30 #[.slice P l.length cap, .int .i64 id] w (NbPost (nbs l id) (decide (0 ≤ find l id)) w) := by
  obtain ⟨i0, hi, hz0, hz1, hz2⟩ := info_parts info_int
  have HI := Lib.hid hz2; clear hz2
  have HI1 := Lib.hid hz1; clear hz1
  have HR := Lib.hid hr; clear hr
  go_enter Try.func30, Try.ntmps30
  go_wp2_with fail
  refine (find_impl P cap l id w HR.out hcap hn).mono ?_
  rintro e w1 ⟨rfl, HB⟩
  by_cases h0 : 0 ≤ find l id
  · obtain ⟨i, hi', hil, _, hg⟩ := find_ok h0
    obtain ⟨x, hx⟩ : ∃ x, l[i] = x := ⟨_, rfl⟩
    have HG := Lib.hid (good_all hg)
    have HE := Lib.hid (And.intro (nbs_yes hi' hil hx) (decide_eq_true h0))
    have hox := HG.out.2 i hil; rw [hx] at hox
    obtain ⟨b, o, rfl, hb, hc⟩ := HR.out.at (k := i * 6) (by rw [flat_n]; omega)
    obtain ⟨x0, x1, x2, x3, x4, x5⟩ := cells6 (Below.refl _ w) hb hc hil hx
    rw [findV_yes hi']; clear hi' h0
    have HOX := Lib.hid hox; have HC := Lib.hid hc; clear hox hc hg hx
    go_wp2
    go_loopw [8, 23] (fun o i wr => ∃ (k : Nat) (L : List Int) (A : Option Addr) (c : Nat), k ≤ l.length ∧ i = .int .i64 k ∧ o = .slice A L.length c ∧ Hid (nb x (l.take k) = L) ∧ L.length ≤ k ∧ wr.ownsRow w.heap.size 3 1 (.slice A L.length c) L.length (iv L) ∧ Below w.heap.size w wr) (fun _ i _ => l.length - (intOf i).toNat)
    case atStart => exact ⟨0, [], _, _, Nat.zero_le _, rfl, rfl, Lib.hid (by simp [nb]), Nat.zero_le _, empty_own HB, al HB⟩
    case round =>
      clear HB 
      obtain ⟨k, L, A, c, hk, rfl, rfl, HL0, hLk, O, HB⟩ := hrel
      by_cases hlt : k < l.length
      · obtain ⟨y, hy⟩ : ∃ y, l[k] = y := ⟨_, rfl⟩
        obtain ⟨y0, y1, y2, y3, y4, y5⟩ := cells6 (Below.refl _ w) hb HC.out hlt hy
        have hoy := HG.out.2 k hlt; rw [hy] at hoy
        have HCY := Lib.hid (fun u => between_any x y HOX.out hoy u)
        have HY := Lib.hid (fun h : 0 < bank x y => show nb x (l.take (k + 1)) = L ++ [y.f0] by rw [nb_yes x l k hlt (by rw [hy]; exact h), HL0.out, hy])
        have HN := Lib.hid (fun h : ¬ 0 < bank x y => show nb x (l.take (k + 1)) = L by rw [nb_no x l k hlt (by rw [hy]; exact h), HL0.out])
        have HL := Lib.hid hlt
        have HG1 := Lib.hid HG.out.1
        clear hy hoy
        generalize bank x y = q at *
        have hm1 : L.length + 1 ≤ maxLen := by have := HG1.out; unfold maxLen; omega
        have hm2 : (L.length + 1) * 8 ≤ 140737488355328 := by have := HG1.out; omega
        have z0 := ((bcell HB).1 _ _ hb).trans y0; have z1 := ((bcell HB).1 _ _ hb).trans y1; have z2 := ((bcell HB).1 _ _ hb).trans y2; have z3 := ((bcell HB).1 _ _ hb).trans y3; have z4 := ((bcell HB).1 _ _ hb).trans y4; have z5 := ((bcell HB).1 _ _ hb).trans y5
        clear y0 y1 y2 y3 y4 y5
        have x0_c := ((bcell HB).1 _ _ hb).trans x0
        have x1_c := ((bcell HB).1 _ _ hb).trans x1
        have x2_c := ((bcell HB).1 _ _ hb).trans x2
        have x3_c := ((bcell HB).1 _ _ hb).trans x3
        have x4_c := ((bcell HB).1 _ _ hb).trans x4
        have x5_c := ((bcell HB).1 _ _ hb).trans x5
        go_wp2_with fail
        have B := Box.new HB [.int .i64 y.f0, .int .i64 y.f1, .int .i64 y.f2, .int .i64 y.f3, .int .i64 y.f4, .int .i64 y.f5] 54 (g := wr.heap.size) rfl
        replace HB := be HB (al (Below.refl _ _) (o := (.cells #[.int .i64 y.f0, .int .i64 y.f1, .int .i64 y.f2, .int .i64 y.f3, .int .i64 y.f4, .int .i64 y.f5] 54)))
        replace O := own_keep O (al (Below.refl _ _) (o := (.cells #[.int .i64 y.f0, .int .i64 y.f1, .int .i64 y.f2, .int .i64 y.f3, .int .i64 y.f4, .int .i64 y.f5] 54)))
        generalize (wr.alloc (.cells #[.int .i64 y.f0, .int .i64 y.f1, .int .i64 y.f2, .int .i64 y.f3, .int .i64 y.f4, .int .i64 y.f5] 54)) = W1 at B HB O ⊢
        clear x0_c
        clear x1_c
        clear x2_c
        clear x3_c
        clear x4_c
        clear x5_c
        have B_0 := B.cells 0 _ rfl
        have B_1 := B.cells 1 _ rfl
        have B_2 := B.cells 2 _ rfl
        have B_3 := B.cells 3 _ rfl
        have B_4 := B.cells 4 _ rfl
        have B_5 := B.cells 5 _ rfl
        have B_f0 := B.free 0 (by simp)
        have B_f1 := B.free 1 (by simp)
        have B_f2 := B.free 2 (by simp)
        have B_f3 := B.free 3 (by simp)
        have B_f4 := B.free 4 (by simp)
        have B_f5 := B.free 5 (by simp)
        have B_t := B.there
        have x0_c := ((bcell B.below).1 _ _ hb).trans x0
        have x1_c := ((bcell B.below).1 _ _ hb).trans x1
        have x2_c := ((bcell B.below).1 _ _ hb).trans x2
        have x3_c := ((bcell B.below).1 _ _ hb).trans x3
        have x4_c := ((bcell B.below).1 _ _ hb).trans x4
        have x5_c := ((bcell B.below).1 _ _ hb).trans x5
        clear z0 z1 z2 z3 z4 z5
        refine wp_region_text (fun w' => Box (wr.heap.size) [.int .i64 y.f0, .int .i64 y.f1, .int .i64 y.f2, .int .i64 y.f3, .int .i64 y.f4, .int .i64 y.f5] w w' ∧ Below w.heap.size w w' ∧ w'.ownsRow (w.heap.size) 3 1 (.slice A L.length c) (L.length) (iv L)) (by kernel_rfl) (by kernel_rfl) ⟨B.drew, be HB (Below.refl _ _).drew, own_keep O (Below.refl _ _).drew⟩ ?_
        clear B_0 B_1 B_2 B_3 B_4 B_5 B_f0 B_f1 B_f2 B_f3 B_f4 B_f5 B_t
        clear x0_c
        clear x1_c
        clear x2_c
        clear x3_c
        clear x4_c
        clear x5_c
        iterate 7 (
          apply SeqH.one
          · intro uw K hS hK
            obtain ⟨qB, qHB, qO⟩ := hS
            have qB_0 := qB.cells 0 _ rfl
            have qB_1 := qB.cells 1 _ rfl
            have qB_2 := qB.cells 2 _ rfl
            have qB_3 := qB.cells 3 _ rfl
            have qB_4 := qB.cells 4 _ rfl
            have qB_5 := qB.cells 5 _ rfl
            have qx0_c := ((bcell qB.below).1 _ _ hb).trans x0
            have qx1_c := ((bcell qB.below).1 _ _ hb).trans x1
            have qx2_c := ((bcell qB.below).1 _ _ hb).trans x2
            have qx3_c := ((bcell qB.below).1 _ _ hb).trans x3
            have qx4_c := ((bcell qB.below).1 _ _ hb).trans x4
            have qx5_c := ((bcell qB.below).1 _ _ hb).trans x5
            first
              | (go_simp; exact hK.out _ ⟨qB, qHB, qO⟩)
              | (go_simp; go_at_call 36; (with_reducible refine (HCY.out _).mono ?_); rintro e uw1 ⟨rfl, hv⟩; go_wp2_with fail; exact hK.out _ ⟨qB.more hv, be qHB hv, own_keep qO hv⟩)
          try simp only [Act.put, List.setIfInBounds_toArray, List.set_cons_zero, List.set_cons_succ])
        refine SeqH.end' rfl ?_
        intro v2 hS
        clear B HB O
        obtain ⟨B, HB, O⟩ := hS
        have B_0 := B.cells 0 _ rfl
        have B_1 := B.cells 1 _ rfl
        have B_2 := B.cells 2 _ rfl
        have B_3 := B.cells 3 _ rfl
        have B_4 := B.cells 4 _ rfl
        have B_5 := B.cells 5 _ rfl
        have B_f0 := B.free 0 (by simp)
        have B_f1 := B.free 1 (by simp)
        have B_f2 := B.free 2 (by simp)
        have B_f3 := B.free 3 (by simp)
        have B_f4 := B.free 4 (by simp)
        have B_f5 := B.free 5 (by simp)
        have B_t := B.there
        have x0_c := ((bcell B.below).1 _ _ hb).trans x0
        have x1_c := ((bcell B.below).1 _ _ hb).trans x1
        have x2_c := ((bcell B.below).1 _ _ hb).trans x2
        have x3_c := ((bcell B.below).1 _ _ hb).trans x3
        have x4_c := ((bcell B.below).1 _ _ hb).trans x4
        have x5_c := ((bcell B.below).1 _ _ hb).trans x5
        by_cases hq : 0 < q
        · go_wp2_with (at_builtin; go_must (refine wpList_append_own _ rfl _ _ 27 rfl w.heap.size 3 i0 _ 1 8 Try.underlying27 hi hz0 HI1.out HI.out rfl (by decide) _ L.length _ rfl (O.alloc _) ⟨v2.heap.size, 0, none⟩ 1 1 [.int .i64 y.f0] rfl rfl (cell_one_new _ _ _) (one_cell rfl) hm1 hm2 (by rw [size_alloc']; have := HB.size; omega) ?_; intro v' w9 hown1 hgrow _))
          have hB9 := below_append HB O hgrow
          obtain ⟨A1, c1, rfl⟩ := own_form hown1
          have HY1 := Lib.hid (HY.out (by omega)); clear HY HN
          have HO1 : w9.ownsRow w.heap.size 3 1 (.slice A1 (L ++ [y.f0]).length c1) (L ++ [y.f0]).length (iv (L ++ [y.f0])) := by
            have e : iv (L ++ [y.f0]) = iv L ++ [.int .i64 y.f0] := by simp [iv]
            rw [e, List.length_append]; exact hown1
          clear hgrow hown1 HB O hm1 hm2
          clear B_0 B_1 B_2 B_3 B_4 B_5 B_f0 B_f1 B_f2 B_f3 B_f4 B_f5 B_t
          clear x0_c
          clear x1_c
          clear x2_c
          clear x3_c
          clear x4_c
          clear x5_c
          go_wp2
          go_roundw
          case rel => exact ⟨k + 1, L ++ [y.f0], A1, c1, HL.out, by go_num, by rw [List.length_append] <;> rfl, HY1, by rw [List.length_append]; simp; omega, HO1, hB9⟩
          case measure => have := HL.out; simp [intOf]; omega
        · have HN1 := Lib.hid (HN.out (by omega)); clear HY HN
          go_wp2
          go_roundw
          case rel => exact ⟨k + 1, L, A, c, HL.out, by go_num, rfl, HN1, by omega, O, HB⟩
          case measure => have := HL.out; simp [intOf]; omega
      · obtain rfl : k = l.length := by omega
        have e := HL0.out
        rw [List.take_length] at e
        go_wp2
        go_ret2
        exact nb_mk (HE.out.1.trans e) HE.out.2 rfl O HB
  · have HE := Lib.hid (And.intro (nbs_no h0) (decide_eq_false h0))
    rw [findV_no (find_neg h0)]
    clear h0
    go_wp2
    go_ret2
    exact nb_mk HE.out.1 HE.out.2 rfl (empty_own HB) (al HB)
end Go.Proofs.Ytncdkfkihfhcgaa.Pond9
