/- Trips: MeetingTrips. Made by tools/mk_tripu.py. -/
import Derived.Test.YtphflbgljejokaaTripT
import Derived.Test.YtphflbgljejokaaTripN
import Derived.Deep.RegionLaw
namespace Go.Proofs.Ytphflbgljejokaa.TripU
open Go.RowKit Go.Proofs.Ytphflbgljejokaa.Mem Go.Proofs.Ytphflbgljejokaa.Base Go.Proofs.Ytphflbgljejokaa.Within Go.Proofs.Ytphflbgljejokaa.SInt Go.Proofs.Ytphflbgljejokaa.Nest Go.Proofs.Ytphflbgljejokaa.STrip Go.Proofs.Ytphflbgljejokaa.Regn Go.Proofs.Ytphflbgljejokaa.Boxes Go.Proofs.Ytphflbgljejokaa.Keep Go.Proofs.Ytphflbgljejokaa.TripP Go.Proofs.Ytphflbgljejokaa.TripS Go.Proofs.Ytphflbgljejokaa.TripG Go.Proofs.Ytphflbgljejokaa.TripM Go.Proofs.Ytphflbgljejokaa.TripN Go.Proofs.Ytphflbgljejokaa.TripT
open Go.Proofs.Ytphflbgljejokaa.TabS (TOwn TOwnL townl_keep TPost tp)
set_option linter.unusedVariables false
set_option linter.unusedSimpArgs false
set_option maxRecDepth 100000
def one (l : List R) (i b : Nat) : List (List Int) := if (decide (i < b) && meetB (l.getD i zero) (l.getD b zero)) = true then [[(l.getD i zero).f0, (l.getD b zero).f0]] else []
def rowOf (l : List R) (i k : Nat) : List (List Int) := (List.range k).flatMap (one l i)
def pairT (l : List R) (i k : Nat) : List (List Int) := (List.range i).flatMap (fun a => rowOf l a l.length) ++ rowOf l i k
theorem one_len (l : List R) (i b : Nat) : (one l i b).length ≤ 1 := by unfold one; split <;> simp
theorem rowOf_next (l : List R) (i k : Nat) : rowOf l i (k + 1) = rowOf l i k ++ one l i k := by unfold rowOf; rw [List.range_succ, List.flatMap_append]; simp
theorem rowOf_len (l : List R) (i k : Nat) : (rowOf l i k).length ≤ k := by
  induction k with
  | zero => simp [rowOf]
  | succ k ih => rw [rowOf_next, List.length_append]; have := one_len l i k; omega
theorem rowOf_low (l : List R) (i k : Nat) (h : k ≤ i + 1) : rowOf l i k = [] := by
  induction k with
  | zero => simp [rowOf]
  | succ k ih =>
    rw [rowOf_next, ih (by omega)]
    unfold one
    rw [decide_eq_false (by omega : ¬ i < k)]; rfl
theorem pair_next (l : List R) (i k : Nat) : pairT l i (k + 1) = pairT l i k ++ one l i k := by unfold pairT; rw [rowOf_next, List.append_assoc]
theorem pair_yes {l : List R} {i k : Nat} {x y : R} (hi : i < l.length) (hk : k < l.length) (h : i < k) (hx : l[i] = x) (hy : l[k] = y) (hm : meetB x y = true) : pairT l i (k + 1) = pairT l i k ++ [[x.f0, y.f0]] := by
  rw [pair_next]; unfold one; rw [getD_at hi, getD_at hk, hx, hy, decide_eq_true h, hm]; rfl
theorem pair_no {l : List R} {i k : Nat} {x y : R} (hi : i < l.length) (hk : k < l.length) (hx : l[i] = x) (hy : l[k] = y) (hm : meetB x y = false) : pairT l i (k + 1) = pairT l i k := by
  rw [pair_next]; unfold one; rw [getD_at hi, getD_at hk, hx, hy, hm, Bool.and_false]; simp
theorem pair_start (l : List R) (i : Nat) : pairT l i (i + 1) = pairT l i 0 := by unfold pairT; rw [rowOf_low l i (i + 1) (Nat.le_refl _), rowOf_low l i 0 (by omega)]
theorem pair_end (l : List R) (i : Nat) : pairT l i l.length = pairT l (i + 1) 0 := by
  unfold pairT; rw [List.range_succ, List.flatMap_append, rowOf_low l (i + 1) 0 (by omega)]; simp
theorem pair_len (l : List R) (i k : Nat) : (pairT l i k).length ≤ i * l.length + k := by
  have h : ∀ n, ((List.range n).flatMap (fun a => rowOf l a l.length)).length ≤ n * l.length := by
    intro n
    induction n with
    | zero => simp
    | succ n ih =>
      rw [List.range_succ, List.flatMap_append, List.length_append, Nat.succ_mul]
      have h2 := rowOf_len l n l.length
      simp
      simp at ih
      omega
  unfold pairT
  rw [List.length_append]
  have h1 := h i
  have h2 := rowOf_len l i k
  omega
theorem pair_bd {l : List R} {i k : Nat} (h : l.length ≤ 10) (hi : i ≤ l.length) (hk : k ≤ l.length) : (pairT l i k).length ≤ 110 := by
  have h1 := pair_len l i k
  have h2 : i * l.length ≤ 10 * 10 := Nat.mul_le_mul (by omega) h
  omega
theorem one_row (l : List R) (i b : Nat) : ∀ r ∈ one l i b, r.length ≤ 1000 := by
  intro r hr; unfold one at hr; split at hr
  · simp at hr; subst hr; simp
  · simp at hr
theorem pair_row (l : List R) (i k : Nat) : ∀ r ∈ pairT l i k, r.length ≤ 1000 := by
  intro r hr
  unfold pairT rowOf at hr
  rcases List.mem_append.1 hr with h | h
  · obtain ⟨a, _, h⟩ := List.mem_flatMap.1 h
    obtain ⟨b, _, h⟩ := List.mem_flatMap.1 h
    exact one_row l a b r h
  · obtain ⟨b, _, h⟩ := List.mem_flatMap.1 h
    exact one_row l i b r h
def mtF (l : List R) : List (List Int) := if good l = true then pairT l l.length 0 else []
theorem mtF_no {l : List R} (h : good l = false) : mtF l = [] := by unfold mtF; rw [h]; rfl
theorem mtF_yes {l : List R} (h : good l = true) : mtF l = pairT l l.length 0 := by unfold mtF; rw [if_pos h]
theorem mt_sm (l : List R) : TabS.Sm (mtF l) := by
  unfold mtF
  split
  · rename_i h
    have h1 := pair_bd (good_all h).1 (Nat.le_refl l.length) (Nat.zero_le _)
    exact ⟨by omega, pair_row l _ _⟩
  · exact ⟨by simp, by simp⟩
set_option maxHeartbeats 3200000 in
theorem mt_spec (P : Option Addr) (cap : Nat) (l : List R) (w : World) (hr : Rd w w.heap.size P (flat l)) (hn : l.length ≤ 1048576) :
    Calls Try.prog 41 #[.slice P l.length cap] w (TPost (mtF l) (good l) w) := by
  obtain ⟨i2, hi2, hx0, hx1, hx2⟩ := info_parts info_S
  have HK := Lib.hid hx2; clear hx2
  have HK1 := Lib.hid hx1; clear hx1
  have HR := Lib.hid hr; clear hr
  go_enter Try.func41, Try.ntmps41
  go_wp2_with fail
  refine (good_spec P cap l _ ((HR.out.below (al (Below.refl _ _)) (Nat.le_refl _)).mono (by simp)) hn).mono ?_
  rintro e w1 ⟨rfl, hv⟩
  have TL0 : TOwnL (w.alloc (.cells #[] 34)) w.heap.size (w.heap.size + 1) (some ⟨w.heap.size, 0, none⟩) 0 [] := ⟨TOwn.empty w (Nat.le_refl _), by rw [size_alloc']; omega⟩
  have TL := townl_keep TL0 hv
  have HB := be (al (Below.refl _ w) (o := .cells #[] 34)) hv
  clear hv TL0
  cases hg : good l
  · have HF := Lib.hid (mtF_no hg)
    go_wp2
    go_ret2
    exact TabS.t_mk (m := []) HF.out hg rfl (TL.own.mono TL.le) HB
  have HG := Lib.hid hg
  have HF := Lib.hid (mtF_yes hg)
  have h10 := (good_all hg).1
  have HA := Lib.hid (good_all hg).2
  clear hg
  go_wp2_with fail
  go_loopw [4, 5] (fun z ii wr => ∃ (i : Nat) (m : List Row) (A : Option Addr) (c top : Nat), i ≤ l.length ∧ ii = .int .i64 i ∧ z = .slice A m.length c ∧ Hid (tp m = pairT l i 0) ∧ TOwnL wr w.heap.size top A c m ∧ Below w.heap.size w wr) (fun _ ii _ => l.length - (intOf ii).toNat)
  case atStart => exact ⟨0, [], _, _, _, Nat.zero_le _, rfl, rfl, Lib.hid rfl, TL, HB⟩
  case round =>
    clear TL HB
    obtain ⟨i, m, A, c, top, hi, rfl, rfl, HM, TL, HB⟩ := hrel
    by_cases hlt : i < l.length
    · obtain ⟨b, o, rfl, hb, hc⟩ := HR.out.at (k := i * 5) (by rw [flat_n]; omega)
      obtain ⟨x, hx⟩ : ∃ x, l[i] = x := ⟨_, rfl⟩
      obtain ⟨h0, h1, h2, h3, h4⟩ := cells5 (Below.refl _ _) hb hc hlt hx
      have HOX := Lib.hid (show okT x = true by rw [← hx]; exact HA.out i hlt)
      have HX := Lib.hid hx
      have HL := Lib.hid hlt
      have HC := Lib.hid hc
      have y1 : IntKind.i64.wrap ((i : Int) + 1) = i + 1 := IntWalk.i64_in _ (by omega)
      clear hx hc
      go_wp2_with fail
      go_loopw [4, 6] (fun z ki wr => ∃ (k : Nat) (m : List Row) (A : Option Addr) (c top : Nat), i < k ∧ k ≤ l.length ∧ ki = .int .i64 k ∧ z = .slice A m.length c ∧ Hid (tp m = pairT l i k) ∧ TOwnL wr w.heap.size top A c m ∧ Below w.heap.size w wr) (fun _ ki _ => l.length - (intOf ki).toNat)
      case atStart => exact ⟨i + 1, m, A, c, top, by omega, by omega, by go_num, rfl, Lib.hid (by rw [pair_start]; exact HM.out), TL, HB⟩
      case round =>
        clear TL HB HM
        obtain ⟨k, m, A, c, top, hik, hk, rfl, rfl, HM, TL, HB⟩ := hrel
        by_cases hlk : k < l.length
        · obtain ⟨y, hy⟩ : ∃ y, l[k] = y := ⟨_, rfl⟩
          obtain ⟨g0, g1, g2, g3, g4⟩ := cells5 (Below.refl _ _) hb HC.out hlk hy
          have HOY := Lib.hid (show okT y = true by rw [← hy]; exact HA.out k hlk)
          have HY := Lib.hid hy
          have HLK := Lib.hid hlk
          have HIK := Lib.hid hik
          have hml : m.length ≤ 110 := by have := tp_n HM.out; have := pair_bd h10 hi hk; omega
          clear hy
          cases hm : meetB x y
          · have HN := Lib.hid ((pair_no HL.out HLK.out HX.out HY.out hm))
            go_wp2_with fail
            have h0_c := ((bcell HB).1 _ _ hb).trans h0
            have h1_c := ((bcell HB).1 _ _ hb).trans h1
            have h2_c := ((bcell HB).1 _ _ hb).trans h2
            have h3_c := ((bcell HB).1 _ _ hb).trans h3
            have h4_c := ((bcell HB).1 _ _ hb).trans h4
            have g0_c := ((bcell HB).1 _ _ hb).trans g0
            have g1_c := ((bcell HB).1 _ _ hb).trans g1
            have g2_c := ((bcell HB).1 _ _ hb).trans g2
            have g3_c := ((bcell HB).1 _ _ hb).trans g3
            have g4_c := ((bcell HB).1 _ _ hb).trans g4
            refine wp_region_text (fun w' => Below w.heap.size w w' ∧ TOwnL w' w.heap.size top A c m) (by kernel_rfl) (by kernel_rfl) ⟨be HB (Below.refl _ _).drew, townl_keep TL (Below.refl _ _).drew⟩ ?_
            clear h0_c
            clear h1_c
            clear h2_c
            clear h3_c
            clear h4_c
            clear g0_c
            clear g1_c
            clear g2_c
            clear g3_c
            clear g4_c
            iterate 9 (
              apply SeqH.one
              · intro uw K hS hK
                obtain ⟨qHB, qTL⟩ := hS
                have qh0_c := ((bcell qHB).1 _ _ hb).trans h0
                have qh1_c := ((bcell qHB).1 _ _ hb).trans h1
                have qh2_c := ((bcell qHB).1 _ _ hb).trans h2
                have qh3_c := ((bcell qHB).1 _ _ hb).trans h3
                have qh4_c := ((bcell qHB).1 _ _ hb).trans h4
                have qg0_c := ((bcell qHB).1 _ _ hb).trans g0
                have qg1_c := ((bcell qHB).1 _ _ hb).trans g1
                have qg2_c := ((bcell qHB).1 _ _ hb).trans g2
                have qg3_c := ((bcell qHB).1 _ _ hb).trans g3
                have qg4_c := ((bcell qHB).1 _ _ hb).trans g4
                first
                  | (go_simp; exact hK.out _ ⟨qHB, qTL⟩)
                  | (go_simp; go_at_call 88; (with_reducible refine (meet_spec x y HOX.out HOY.out _).mono ?_); rintro e uw1 ⟨rfl, hv⟩; rw [hm]; go_wp2_with fail; exact hK.out _ ⟨be qHB hv, townl_keep qTL hv⟩)
              try simp only [Act.put, List.setIfInBounds_toArray, List.set_cons_zero, List.set_cons_succ])
            refine SeqH.end' rfl ?_
            intro v1 hS
            clear HB TL
            obtain ⟨HB, TL⟩ := hS
            have h0_c := ((bcell HB).1 _ _ hb).trans h0
            have h1_c := ((bcell HB).1 _ _ hb).trans h1
            have h2_c := ((bcell HB).1 _ _ hb).trans h2
            have h3_c := ((bcell HB).1 _ _ hb).trans h3
            have h4_c := ((bcell HB).1 _ _ hb).trans h4
            have g0_c := ((bcell HB).1 _ _ hb).trans g0
            have g1_c := ((bcell HB).1 _ _ hb).trans g1
            have g2_c := ((bcell HB).1 _ _ hb).trans g2
            have g3_c := ((bcell HB).1 _ _ hb).trans g3
            have g4_c := ((bcell HB).1 _ _ hb).trans g4
            go_wp2
            go_roundw
            case rel => exact ⟨k + 1, m, A, c, top, by omega, HLK.out, by go_num, rfl, Lib.hid (by rw [HN.out]; exact HM.out), TL, HB⟩
            case measure => have := HLK.out; simp [intOf]; omega
          · have HN := Lib.hid (pair_yes HL.out HLK.out HIK.out HX.out HY.out hm)
            go_wp2_with fail
            have h0_c := ((bcell HB).1 _ _ hb).trans h0
            have h1_c := ((bcell HB).1 _ _ hb).trans h1
            have h2_c := ((bcell HB).1 _ _ hb).trans h2
            have h3_c := ((bcell HB).1 _ _ hb).trans h3
            have h4_c := ((bcell HB).1 _ _ hb).trans h4
            have g0_c := ((bcell HB).1 _ _ hb).trans g0
            have g1_c := ((bcell HB).1 _ _ hb).trans g1
            have g2_c := ((bcell HB).1 _ _ hb).trans g2
            have g3_c := ((bcell HB).1 _ _ hb).trans g3
            have g4_c := ((bcell HB).1 _ _ hb).trans g4
            refine wp_region_text (fun w' => Below w.heap.size w w' ∧ TOwnL w' w.heap.size top A c m) (by kernel_rfl) (by kernel_rfl) ⟨be HB (Below.refl _ _).drew, townl_keep TL (Below.refl _ _).drew⟩ ?_
            clear h0_c
            clear h1_c
            clear h2_c
            clear h3_c
            clear h4_c
            clear g0_c
            clear g1_c
            clear g2_c
            clear g3_c
            clear g4_c
            iterate 9 (
              apply SeqH.one
              · intro uw K hS hK
                obtain ⟨qHB, qTL⟩ := hS
                have qh0_c := ((bcell qHB).1 _ _ hb).trans h0
                have qh1_c := ((bcell qHB).1 _ _ hb).trans h1
                have qh2_c := ((bcell qHB).1 _ _ hb).trans h2
                have qh3_c := ((bcell qHB).1 _ _ hb).trans h3
                have qh4_c := ((bcell qHB).1 _ _ hb).trans h4
                have qg0_c := ((bcell qHB).1 _ _ hb).trans g0
                have qg1_c := ((bcell qHB).1 _ _ hb).trans g1
                have qg2_c := ((bcell qHB).1 _ _ hb).trans g2
                have qg3_c := ((bcell qHB).1 _ _ hb).trans g3
                have qg4_c := ((bcell qHB).1 _ _ hb).trans g4
                first
                  | (go_simp; exact hK.out _ ⟨qHB, qTL⟩)
                  | (go_simp; go_at_call 88; (with_reducible refine (meet_spec x y HOX.out HOY.out _).mono ?_); rintro e uw1 ⟨rfl, hv⟩; rw [hm]; go_wp2_with fail; exact hK.out _ ⟨be qHB hv, townl_keep qTL hv⟩)
              try simp only [Act.put, List.setIfInBounds_toArray, List.set_cons_zero, List.set_cons_succ])
            refine SeqH.end' rfl ?_
            intro v1 hS
            clear HB TL
            obtain ⟨HB, TL⟩ := hS
            have h0_c := ((bcell HB).1 _ _ hb).trans h0
            have h1_c := ((bcell HB).1 _ _ hb).trans h1
            have h2_c := ((bcell HB).1 _ _ hb).trans h2
            have h3_c := ((bcell HB).1 _ _ hb).trans h3
            have h4_c := ((bcell HB).1 _ _ hb).trans h4
            have g0_c := ((bcell HB).1 _ _ hb).trans g0
            have g1_c := ((bcell HB).1 _ _ hb).trans g1
            have g2_c := ((bcell HB).1 _ _ hb).trans g2
            have g3_c := ((bcell HB).1 _ _ hb).trans g3
            have g4_c := ((bcell HB).1 _ _ hb).trans g4
            go_wp2_with fail
            have TO := TL.own.mono TL.le
            have hws : w.heap.size ≤ v1.heap.size := HB.size
            clear TL hm
            have hrow0 : RowOwn (v1.alloc (.cells #[.int .i64 x.f0, .int .i64 y.f0] 3)) v1.heap.size ⟨some ⟨v1.heap.size, 0, none⟩, 2, [x.f0, y.f0]⟩ := by
              have := World.ownsRow_lit v1 #[.int .i64 x.f0, .int .i64 y.f0] 2 (e := 3) (size := 1) (base := v1.heap.size) (Nat.le_refl _) (by unfold maxLen; omega) rfl
              simpa [RowOwn, Row.val, iv] using this
            have HROW := Lib.hid (show RowOwn ((v1.alloc (.cells #[.int .i64 x.f0, .int .i64 y.f0] 3)).alloc (.cells #[.slice (some ⟨v1.heap.size, 0, none⟩) 2 2] 34)).drew v1.heap.size ⟨some ⟨v1.heap.size, 0, none⟩, 2, [x.f0, y.f0]⟩ from (own_keep (World.ownsRow.alloc hrow0 (.cells #[.slice (some ⟨v1.heap.size, 0, none⟩) 2 2] 34)) (Below.refl _ _).drew))
            have hba : Below v1.heap.size v1 ((v1.alloc (.cells #[.int .i64 x.f0, .int .i64 y.f0] 3)).alloc (.cells #[.slice (some ⟨v1.heap.size, 0, none⟩) 2 2] 34)).drew := (al (al (Below.refl _ _))).drew
            have HBA := Lib.hid hba
            have HOA := Lib.hid (TO.keep hba).out
            have hnc := cell_one_new (v1.alloc (.cells #[.int .i64 x.f0, .int .i64 y.f0] 3)) (.slice (some ⟨v1.heap.size, 0, none⟩) 2 2) 34
            rw [size_alloc'] at hnc
            have HNC := Lib.hid hnc
            have HTO := Lib.hid TO
            have HWS := Lib.hid hws
            have hm1 : m.length + 1 ≤ maxLen := by unfold maxLen; omega
            have hm2 : (m.length + 1) * 24 ≤ 140737488355328 := by omega
            clear hrow0 hba hnc TO hws
            go_region_law (refine step_append_lies _ rfl (.tmp 35) (.tmp 47) 27 rfl (w.heap.size) 34 i2 _ 1 24 Try.underlying27 hi2 hx0 HK1.out HK.out rfl (by decide) (.slice A m.length c) m.length (TabS.tv m) rfl HOA.out ⟨v1.heap.size + 1, 0, none⟩ 1 1 [.slice (some ⟨v1.heap.size, 0, none⟩) 2 2] rfl rfl HNC.out (one_cell rfl) (by decide) hm1 hm2 (Nat.le_trans HWS.out HBA.out.size) _ rfl ?_; intro g9 c9 w9 hown1 hgrow hat hlt9; have HSN := Lib.hid (tab_snoc (x := ⟨some ⟨v1.heap.size, 0, none⟩, 2, [x.f0, y.f0]⟩) HTO.out HWS.out HBA.out HROW.out hown1 hgrow hat); have HGR := Lib.hid hgrow; have HAT := Lib.hid hat; clear hown1 hgrow hat hlt9)
            all_goals
              go_wp2
              exact ⟨⟨k + 1, m ++ [_], _, _, _, by omega, HLK.out, by go_num, by simp, Lib.hid (by rw [tp_snoc, HM.out, HN.out]), ⟨HSN.out, Nat.le_refl _⟩, bl_grown (be HB HBA.out) HGR.out (fun j hj => own_ge HTO.out.out j hj)⟩, by have := HLK.out; simp [intOf]; omega⟩
        · have HM2 := Lib.hid (show tp m = pairT l (i + 1) 0 by rw [← pair_end]; have := HM.out; rwa [show k = l.length by omega] at this)
          go_wp2
          go_roundw
          case rel => exact ⟨i + 1, m, A, c, top, HL.out, by go_num, rfl, HM2, TL, HB⟩
          case measure => have := HL.out; simp [intOf]; omega
    · have HF2 := Lib.hid (show mtF l = tp m by rw [HF.out, HM.out]; congr 1; omega)
      go_wp2
      go_ret2
      exact TabS.t_mk HF2.out HG.out rfl (TL.own.mono TL.le) HB
theorem cells5a {w W : World} {b o i k : Nat} {l : List R} {x : R} (HB : Below w.heap.size w W) (hb : b < w.heap.size) (hc : ∀ (j : Nat) (v : Value), (flat l)[j]? = some v → w.cell? ⟨b, o + j, none⟩ = some v) (hlt : i + 1 + k < l.length) (hx : l[i + 1 + k] = x) :
    W.cell? ⟨b, o + (i + 1) * 5 + k * 5, none⟩ = some (.int .i64 x.f0) ∧ W.cell? ⟨b, o + (i + 1) * 5 + k * 5 + 1, none⟩ = some (.int .i64 x.f1) ∧ W.cell? ⟨b, o + (i + 1) * 5 + k * 5 + 2, none⟩ = some (.int .i64 x.f2) ∧ W.cell? ⟨b, o + (i + 1) * 5 + k * 5 + 3, none⟩ = some (.int .i64 x.f3) ∧ W.cell? ⟨b, o + (i + 1) * 5 + k * 5 + 4, none⟩ = some (.int .i64 x.f4) := by
  have e : o + (i + 1) * 5 + k * 5 = o + (i + 1 + k) * 5 := by omega
  rw [e]
  exact cells5 HB hb hc hlt hx
set_option maxHeartbeats 3200000 in
theorem mt_impl (P : Option Addr) (cap : Nat) (l : List R) (w : World) (hr : Rd w w.heap.size P (flat l)) (hcp : l.length ≤ cap) (hn : l.length ≤ 1048576) :
    Calls Try.prog 40 #[.slice P l.length cap] w (TPost (mtF l) (good l) w) := by
  obtain ⟨i2, hi2, hx0, hx1, hx2⟩ := info_parts info_S
  have HK := Lib.hid hx2; clear hx2
  have HK1 := Lib.hid hx1; clear hx1
  have HR := Lib.hid hr; clear hr
  have HCP := Lib.hid hcp; clear hcp
  go_enter Try.func40, Try.ntmps40
  go_wp2_with fail
  refine (are_impl P cap l w HR.out hn).mono ?_
  rintro e w1 ⟨rfl, HB⟩
  cases hg : good l
  · have HF := Lib.hid (mtF_no hg)
    have TO := TabS.t_none HB
    go_wp2
    go_ret2
    exact TabS.t_mk (m := []) HF.out hg rfl TO (al HB)
  have HG := Lib.hid hg
  have HF := Lib.hid (mtF_yes hg)
  have h10 := (good_all hg).1
  have HA := Lib.hid (good_all hg).2
  clear hg
  have TL : TOwnL (w1.alloc (.cells #[] 34)) w.heap.size (w1.heap.size + 1) (some ⟨w1.heap.size, 0, none⟩) 0 [] := ⟨TOwn.empty w1 HB.size, by rw [size_alloc']; omega⟩
  go_wp2_with fail
  go_loopw [4, 16] (fun z ii wr => ∃ (i : Nat) (m : List Row) (A : Option Addr) (c top : Nat), i ≤ l.length ∧ ii = .int .i64 i ∧ z = .slice A m.length c ∧ Hid (tp m = pairT l i 0) ∧ TOwnL wr w.heap.size top A c m ∧ Below w.heap.size w wr) (fun _ ii _ => l.length - (intOf ii).toNat)
  case atStart => exact ⟨0, [], _, _, _, Nat.zero_le _, rfl, rfl, Lib.hid rfl, TL, al HB⟩
  case round =>
    clear TL HB
    obtain ⟨i, m, A, c, top, hi, rfl, rfl, HM, TL, HB0⟩ := hrel
    by_cases hlt : i < l.length
    · obtain ⟨b, o, rfl, hb, hc⟩ := HR.out.at (k := i * 5) (by rw [flat_n]; omega)
      obtain ⟨x, hx⟩ : ∃ x, l[i] = x := ⟨_, rfl⟩
      obtain ⟨h0, h1, h2, h3, h4⟩ := cells5 HB0 hb hc hlt hx
      have HOX := Lib.hid (show okT x = true by rw [← hx]; exact HA.out i hlt)
      have HX := Lib.hid hx
      have HL := Lib.hid hlt
      have HC := Lib.hid hc
      have y1 : IntKind.i64.wrap ((i : Int) + 1) = i + 1 := IntWalk.i64_in _ (by omega)
      have TLW := Lib.hid (show ∀ j, (Value.slice A m.length c).ownBlock = some j → j < wr.heap.size from fun j hj => Nat.lt_of_lt_of_le (TL.own.low j hj) TL.le)
      clear hx hc
      go_upto_region 7 with fail
      have T := Box.new HB0 [.int .i64 x.f0, .int .i64 x.f1, .int .i64 x.f2, .int .i64 x.f3, .int .i64 x.f4] 25 (g := wr.heap.size) rfl
      replace TL := townl_keep TL (al (Below.refl _ _) (o := (.cells #[.int .i64 x.f0, .int .i64 x.f1, .int .i64 x.f2, .int .i64 x.f3, .int .i64 x.f4] 25)))
      generalize (wr.alloc (.cells #[.int .i64 x.f0, .int .i64 x.f1, .int .i64 x.f2, .int .i64 x.f3, .int .i64 x.f4] 25)) = W1 at T TL ⊢
      have T_0 := T.cells 0 _ rfl
      have T_1 := T.cells 1 _ rfl
      have T_2 := T.cells 2 _ rfl
      have T_3 := T.cells 3 _ rfl
      have T_4 := T.cells 4 _ rfl
      have T_f0 := T.free 0 (by simp)
      have T_f1 := T.free 1 (by simp)
      have T_f2 := T.free 2 (by simp)
      have T_f3 := T.free 3 (by simp)
      have T_f4 := T.free 4 (by simp)
      have T_t := T.there
      obtain ⟨gT, hgT⟩ : ∃ g, wr.heap.size = g := ⟨_, rfl⟩
      have HD := Lib.hid (show ∀ j, (Value.slice A m.length c).ownBlock = some j → j ≠ gT from fun j hj => by have h9 := TLW.out j hj; omega)
      rw [hgT] at T ⊢
      clear h0 h1 h2 h3 h4 hgT
      by_cases hcn : cap = i + 1
      · have hll : l.length = i + 1 := by have := HCP.out; omega
        have HM2 := Lib.hid (show tp m = pairT l (i + 1) 0 by rw [← pair_end, hll, pair_start]; exact HM.out)
        have HTB := Lib.hid T.below
        have hz : l.length - (i + 1) = 0 := by omega
        have HLL := Lib.hid hll
        clear hll hi h10 hn T
        go_wp2_with fail
        go_loopw [4, 26] (fun z ki wr => ki = .int .i64 0 ∧ z = .slice A m.length c ∧ TOwnL wr w.heap.size top A c m ∧ Below w.heap.size w wr) (fun _ ki _ => 0)
        case atStart => exact ⟨rfl, rfl, TL, HTB.out⟩
        case round =>
          clear TL HTB
          obtain ⟨rfl, rfl, TL, HTB⟩ := hrel
          go_wp2
          go_roundw
          case rel => exact ⟨i + 1, m, A, c, top, HL.out, by go_num, rfl, HM2, TL, HTB⟩
          case measure => have := HL.out; simp [intOf]; omega
      · have HM2 := Lib.hid (show tp m = pairT l i (i + 1 + 0) by rw [Nat.add_zero, pair_start]; exact HM.out)
        have hc1 : i + 1 ≤ cap := by have := HCP.out; omega
        have HT0 := Lib.hid T
        clear T HM
        go_wp2_with fail
        go_loopw [4, 26] (fun z ki wr => ∃ (k : Nat) (m : List Row) (A : Option Addr) (c top : Nat), k ≤ l.length - (i + 1) ∧ ki = .int .i64 k ∧ z = .slice A m.length c ∧ Hid (tp m = pairT l i (i + 1 + k)) ∧ TOwnL wr w.heap.size top A c m ∧ Hid (∀ j, (Value.slice A m.length c).ownBlock = some j → j ≠ gT) ∧ Box gT [.int .i64 x.f0, .int .i64 x.f1, .int .i64 x.f2, .int .i64 x.f3, .int .i64 x.f4] w wr) (fun _ ki _ => l.length - (i + 1) - (intOf ki).toNat)
        case atStart => exact ⟨0, m, A, c, top, Nat.zero_le _, rfl, rfl, HM2, TL, HD, HT0.out⟩
        case round =>
          clear TL HD HT0 HM2
          obtain ⟨k, m, A, c, top, hk, rfl, rfl, HM, TL, HD, T⟩ := hrel
          by_cases hlk : k < l.length - (i + 1)
          · have hlk2 : i + 1 + k < l.length := by omega
            obtain ⟨y, hy⟩ : ∃ y, l[i + 1 + k] = y := ⟨_, rfl⟩
            obtain ⟨g0, g1, g2, g3, g4⟩ := cells5a T.below hb HC.out hlk2 hy
            have HOY := Lib.hid (show okT y = true by rw [← hy]; exact HA.out _ hlk2)
            have HY := Lib.hid hy
            have HLK := Lib.hid hlk
            have HLK2 := Lib.hid hlk2
            have hml : m.length ≤ 110 := by have := tp_n HM.out; have := pair_bd (i := i) (k := i + 1 + k) h10 hi (by omega); omega
            have HML := Lib.hid hml
            have TLW := Lib.hid (show ∀ j, (Value.slice A m.length c).ownBlock = some j → j < wr.heap.size from fun j hj => Nat.lt_of_lt_of_le (TL.own.low j hj) TL.le)
            clear hy hml
            go_upto_region 10 with fail
            have T_t1 := T.there
            have U := Box.new T.below [.int .i64 y.f0, .int .i64 y.f1, .int .i64 y.f2, .int .i64 y.f3, .int .i64 y.f4] 25 (g := wr.heap.size) rfl
            replace T := (T).alloc (.cells #[.int .i64 y.f0, .int .i64 y.f1, .int .i64 y.f2, .int .i64 y.f3, .int .i64 y.f4] 25)
            replace TL := townl_keep TL (al (Below.refl _ _) (o := (.cells #[.int .i64 y.f0, .int .i64 y.f1, .int .i64 y.f2, .int .i64 y.f3, .int .i64 y.f4] 25)))
            generalize (wr.alloc (.cells #[.int .i64 y.f0, .int .i64 y.f1, .int .i64 y.f2, .int .i64 y.f3, .int .i64 y.f4] 25)) = W1 at U T TL ⊢
            have T_0 := T.cells 0 _ rfl
            have T_1 := T.cells 1 _ rfl
            have T_2 := T.cells 2 _ rfl
            have T_3 := T.cells 3 _ rfl
            have T_4 := T.cells 4 _ rfl
            have T_f0 := T.free 0 (by simp)
            have T_f1 := T.free 1 (by simp)
            have T_f2 := T.free 2 (by simp)
            have T_f3 := T.free 3 (by simp)
            have T_f4 := T.free 4 (by simp)
            have T_t := T.there
            have U_0 := U.cells 0 _ rfl
            have U_1 := U.cells 1 _ rfl
            have U_2 := U.cells 2 _ rfl
            have U_3 := U.cells 3 _ rfl
            have U_4 := U.cells 4 _ rfl
            have U_f0 := U.free 0 (by simp)
            have U_f1 := U.free 1 (by simp)
            have U_f2 := U.free 2 (by simp)
            have U_f3 := U.free 3 (by simp)
            have U_f4 := U.free 4 (by simp)
            have U_t := U.there
            clear g0 g1 g2 g3 g4
            go_wp2_with fail
            refine (meet_impl x y HOX.out HOY.out _).mono ?_
            rintro e v2 ⟨rfl, hv2⟩
            clear T_0 T_1 T_2 T_3 T_4 T_f0 T_f1 T_f2 T_f3 T_f4 T_t
            clear U_0 U_1 U_2 U_3 U_4 U_f0 U_f1 U_f2 U_f3 U_f4 U_t
            replace T := T.more hv2
            replace U := U.more hv2
            replace TL := townl_keep TL hv2
            have zhv2 := hv2.size
            clear hv2
            have T_0 := T.cells 0 _ rfl
            have T_1 := T.cells 1 _ rfl
            have T_2 := T.cells 2 _ rfl
            have T_3 := T.cells 3 _ rfl
            have T_4 := T.cells 4 _ rfl
            have T_f0 := T.free 0 (by simp)
            have T_f1 := T.free 1 (by simp)
            have T_f2 := T.free 2 (by simp)
            have T_f3 := T.free 3 (by simp)
            have T_f4 := T.free 4 (by simp)
            have T_t := T.there
            have U_0 := U.cells 0 _ rfl
            have U_1 := U.cells 1 _ rfl
            have U_2 := U.cells 2 _ rfl
            have U_3 := U.cells 3 _ rfl
            have U_4 := U.cells 4 _ rfl
            have U_f0 := U.free 0 (by simp)
            have U_f1 := U.free 1 (by simp)
            have U_f2 := U.free 2 (by simp)
            have U_f3 := U.free 3 (by simp)
            have U_f4 := U.free 4 (by simp)
            have U_t := U.there
            cases hm : meetB x y
            · have HN := Lib.hid (pair_no HL.out HLK2.out HX.out HY.out hm)
              go_wp2
              go_roundw
              case rel => exact ⟨k + 1, m, A, c, top, HLK.out, by go_num, rfl, Lib.hid (by rw [show i + 1 + (k + 1) = i + 1 + k + 1 by omega, HN.out]; exact HM.out), TL, HD, T⟩
              case measure => have := HLK.out; simp [intOf]; omega
            · have HN := Lib.hid (pair_yes HL.out HLK2.out (show i < i + 1 + k by omega) HX.out HY.out hm)
              have TO := TL.own.mono TL.le
              have hws : w.heap.size ≤ v2.heap.size := T.below.size
              have hml := HML.out
              clear TL hm
              have hrow0 : RowOwn (v2.alloc (.cells #[.int .i64 x.f0, .int .i64 y.f0] 3)) v2.heap.size ⟨some ⟨v2.heap.size, 0, none⟩, 2, [x.f0, y.f0]⟩ := by
                have := World.ownsRow_lit v2 #[.int .i64 x.f0, .int .i64 y.f0] 2 (e := 3) (size := 1) (base := v2.heap.size) (Nat.le_refl _) (by unfold maxLen; omega) rfl
                simpa [RowOwn, Row.val, iv] using this
              have HROW := Lib.hid (show RowOwn ((v2.alloc (.cells #[.int .i64 x.f0, .int .i64 y.f0] 3)).alloc (.cells #[.slice (some ⟨v2.heap.size, 0, none⟩) 2 2] 34)) v2.heap.size ⟨some ⟨v2.heap.size, 0, none⟩, 2, [x.f0, y.f0]⟩ from (World.ownsRow.alloc hrow0 (.cells #[.slice (some ⟨v2.heap.size, 0, none⟩) 2 2] 34)))
              have hba : Below v2.heap.size v2 ((v2.alloc (.cells #[.int .i64 x.f0, .int .i64 y.f0] 3)).alloc (.cells #[.slice (some ⟨v2.heap.size, 0, none⟩) 2 2] 34)) := (al (al (Below.refl _ _)))
              have HBA := Lib.hid hba
              have HOA := Lib.hid (TO.keep hba).out
              have hnc := cell_one_new (v2.alloc (.cells #[.int .i64 x.f0, .int .i64 y.f0] 3)) (.slice (some ⟨v2.heap.size, 0, none⟩) 2 2) 34
              rw [size_alloc'] at hnc
              have HNC := Lib.hid hnc
              have HTO := Lib.hid TO
              have HWS := Lib.hid hws
              have hm1 : m.length + 1 ≤ maxLen := by unfold maxLen; omega
              have hm2 : (m.length + 1) * 24 ≤ 140737488355328 := by omega
              clear hrow0 hba hnc TO hws
              go_wp2_with (at_builtin; go_must (refine wpList_append_lies _ rfl _ _ 27 rfl (w.heap.size) 34 i2 _ 1 24 Try.underlying27 hi2 hx0 HK1.out HK.out rfl (by decide) (.slice A m.length c) m.length (TabS.tv m) rfl HOA.out ⟨v2.heap.size + 1, 0, none⟩ 1 1 [.slice (some ⟨v2.heap.size, 0, none⟩) 2 2] rfl rfl HNC.out (one_cell rfl) (by decide) hm1 hm2 (Nat.le_trans HWS.out HBA.out.size) _ rfl ?_; intro g9 c9 w9 hown1 hgrow hat hlt9; have HSN := Lib.hid (tab_snoc (x := ⟨some ⟨v2.heap.size, 0, none⟩, 2, [x.f0, y.f0]⟩) HTO.out HWS.out HBA.out HROW.out hown1 hgrow hat); have HGR := Lib.hid hgrow; have HAT := Lib.hid hat; clear hown1 hgrow hat hlt9))
              clear hm1 hm2
              go_roundw
              case rel => exact ⟨k + 1, m ++ [_], _, _, _, HLK.out, by go_num, by simp, Lib.hid (by rw [tp_snoc, HM.out, show i + 1 + (k + 1) = i + 1 + k + 1 by omega, HN.out]), ⟨HSN.out, Nat.le_refl _⟩, Lib.hid (fun j hj => by
                rcases HAT.out with h1 | h1
                · exact HD.out j (by rw [← hj, h1]; rfl)
                · have h2 := row_at hj
                  have h3 := (T.more HBA.out).there
                  omega), box_grown (T.more HBA.out) HGR.out (fun j hj => ⟨HD.out j hj, own_ge HTO.out.out j hj⟩)⟩
              case measure => have := HLK.out; simp [intOf]; omega
          · have HM2 := Lib.hid (show tp m = pairT l (i + 1) 0 by rw [← pair_end]; have := HM.out; rwa [show i + 1 + k = l.length by have := HL.out; omega] at this)
            have HTB := Lib.hid T.below
            clear T
            go_wp2
            go_roundw
            case rel => exact ⟨i + 1, m, A, c, top, HL.out, by go_num, rfl, HM2, TL, HTB.out⟩
            case measure => have := HL.out; simp [intOf]; omega
    · have HF2 := Lib.hid (show mtF l = tp m by rw [HF.out, HM.out]; congr 1; omega)
      go_wp2
      go_ret2
      exact TabS.t_mk HF2.out HG.out rfl (TL.own.mono TL.le) HB0
end Go.Proofs.Ytphflbgljejokaa.TripU
