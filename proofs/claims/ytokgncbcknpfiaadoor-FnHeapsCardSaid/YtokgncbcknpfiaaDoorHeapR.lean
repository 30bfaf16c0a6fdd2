/- Heaps: HeapFor, the model's. -/
import Derived.Test.YtokgncbcknpfiaaDoorHeapQ
namespace Go.Proofs.YtokgncbcknpfiaaDoor.HeapR
open Go.RowKit Go.Proofs.YtokgncbcknpfiaaDoor.Mem Go.Proofs.YtokgncbcknpfiaaDoor.Base Go.Proofs.YtokgncbcknpfiaaDoor.Within Go.Proofs.YtokgncbcknpfiaaDoor.SInt Go.Proofs.YtokgncbcknpfiaaDoor.Boxes Go.Proofs.YtokgncbcknpfiaaDoor.Keep Go.Proofs.YtokgncbcknpfiaaDoor.Regn Go.Proofs.YtokgncbcknpfiaaDoor.Nest Go.Proofs.YtokgncbcknpfiaaDoor.HeapS Go.Proofs.YtokgncbcknpfiaaDoor.HeapW Go.Proofs.YtokgncbcknpfiaaDoor.Heap Go.Proofs.YtokgncbcknpfiaaDoor.Heap2 Go.Proofs.YtokgncbcknpfiaaDoor.HeapG Go.Proofs.YtokgncbcknpfiaaDoor.HeapP Go.Proofs.YtokgncbcknpfiaaDoor.HeapT
set_option linter.unusedVariables false
set_option maxRecDepth 100000
/-- the best place so far, as the model's variable holds it. -/
def Ps (o : Option Nat) (u : Value) (n : Nat) : Prop := (o = none ∧ u = .int .i64 (-1)) ∨ ∃ b : Nat, o = some b ∧ b < n ∧ u = .int .i64 b
set_option maxHeartbeats 1600000 in
theorem for_spec (P : Option Addr) (cap : Nat) (l : List R) (g t : Int) (w : World) (hr : Hs w w.heap.size P l) :
    Calls Tryd.prog 14 #[.slice P l.length cap, .int .i64 g, .int .i64 t] w (RPost (forV (pl l) g t) w) := by
  have hn := hr.len
  have HR := Lib.hid hr; clear hr
  go_enter Tryd.func14, Tryd.ntmps14
  go_wp2_with fail
  refine (good_spec P cap l w HR.out).mono ?_
  rintro e w1 ⟨rfl, HB⟩
  cases hg : good (pl l)
  · have HV := Lib.hid (forV_bad (g := g) (t := t) hg)
    go_wp2
    go_ret2
    exact rpost (by rw [HV.out] <;> rfl) HB
  cases h1 : inB g 1 4
  · have HV := Lib.hid (forV_grade (l := pl l) (t := t) h1)
    go_wp2_with (go_at_call 42; (with_reducible refine (grade_spec _ _).mono ?_); rintro e' w' ⟨rfl, rfl⟩; try rw [h1])
    go_ret2
    exact rpost (by rw [HV.out] <;> rfl) HB
  cases h2 : inB t 1 500
  · have HV := Lib.hid (forV_tons (l := pl l) (g := g) h2)
    go_wp2_with (first | (go_at_call 42; (with_reducible refine (grade_spec _ _).mono ?_); rintro e' w' ⟨rfl, rfl⟩; try rw [h1]) | (go_at_call 43; (with_reducible refine (in_any _ _ _ _).mono ?_); rintro e' w' ⟨rfl, rfl⟩; try rw [h2]))
    go_ret2
    exact rpost (by rw [HV.out] <;> rfl) HB
  have HG := Lib.hid hg; clear hg
  go_wp2_with (first | (go_at_call 42; (with_reducible refine (grade_spec _ _).mono ?_); rintro e' w' ⟨rfl, rfl⟩; try rw [h1]) | (go_at_call 43; (with_reducible refine (in_any _ _ _ _).mono ?_); rintro e' w' ⟨rfl, rfl⟩; try rw [h2]))
  clear h1 h2
  go_loopw [8, 9] (fun u i wr => ∃ (k : Nat), k ≤ l.length ∧ i = .int .i64 k ∧ Hid (Ps (pick 1000 (pl l) g t k) u k) ∧ Below w.heap.size w wr) (fun _ i _ => l.length - (intOf i).toNat)
  case atStart => exact ⟨0, Nat.zero_le _, rfl, Lib.hid (.inl ⟨rfl, rfl⟩), HB⟩
  case round =>
    clear HB
    obtain ⟨k, hk, rfl, HA, HB⟩ := hrel
    by_cases hlt : k < l.length
    · obtain ⟨x, hx⟩ : ∃ x, l[k] = x := ⟨_, rfl⟩
      obtain ⟨b, o, rfl, hb, h0, h1, h2, h3⟩ := hs_at HR.out (Below.refl _ _) hlt hx
      have hrow := hs_row HR.out hlt hx
      have HRX := Lib.hid hrow.1; have HNX := Lib.hid hrow.2; clear hrow
      have HOK := Lib.hid (row_bd HG.out hlt hx).2.2.2.2
      have HX := Lib.hid (pl_x hlt hx); clear hx
      have HL := Lib.hid hlt
      have HPL := Lib.hid (pl_lt hlt)
      rcases HA.out with ⟨hp, rfl⟩ | ⟨j, hp, hj, rfl⟩
      · have HP := Lib.hid hp; clear hp
        cases hc : can x.pure g t
        · have HN := Lib.hid (show Ps (pick 1000 (pl l) g t (k + 1)) (.int .i64 (-1)) (k + 1) from .inl ⟨(pick_no HPL.out HX.out hc).trans HP.out, rfl⟩)
          go_wp2_with fail
          have h0_c := ((bcell HB).1 _ _ hb).trans h0
          have h1_c := ((bcell HB).1 _ _ hb).trans h1
          have h2_c := ((bcell HB).1 _ _ hb).trans h2
          have h3_c := ((bcell HB).1 _ _ hb).trans h3
          refine wp_region_text (fun w' => Below w.heap.size w w') (by kernel_rfl) (by kernel_rfl) (be HB (Below.refl _ _).drew) ?_
          clear h0_c
          clear h1_c
          clear h2_c
          clear h3_c
          iterate 24 (
            apply SeqH.one
            · intro uw K hS hK
              have qHB := hS
              have qh0_c := ((bcell qHB).1 _ _ hb).trans h0
              have qh1_c := ((bcell qHB).1 _ _ hb).trans h1
              have qh2_c := ((bcell qHB).1 _ _ hb).trans h2
              have qh3_c := ((bcell qHB).1 _ _ hb).trans h3
              first
                | (go_simp; exact hK.out _ qHB)
                | (go_simp; go_at_call 33; (with_reducible refine (can_spec x g t _ (rd_keep HRX.out qHB) HOK.out).mono ?_); rintro e uw1 ⟨rfl, hv⟩; rw [hc]; go_wp2_with fail; exact hK.out _ (be qHB hv))
            try simp only [Act.put, List.setIfInBounds_toArray, List.set_cons_zero, List.set_cons_succ])
          refine SeqH.end' rfl ?_
          intro v1 hS
          clear HB
          have HB := hS; clear hS
          have h0_c := ((bcell HB).1 _ _ hb).trans h0
          have h1_c := ((bcell HB).1 _ _ hb).trans h1
          have h2_c := ((bcell HB).1 _ _ hb).trans h2
          have h3_c := ((bcell HB).1 _ _ hb).trans h3
          go_wp2
          go_roundw
          case rel => exact ⟨k + 1, HL.out, by go_num, HN, HB⟩
          case measure => have := HL.out; simp [intOf]; omega
        · have HN := Lib.hid (show Ps (pick 1000 (pl l) g t (k + 1)) (.int .i64 k) (k + 1) from .inr ⟨k, pick_first HPL.out HX.out HP.out hc, by omega, rfl⟩)
          go_wp2_with fail
          have h0_c := ((bcell HB).1 _ _ hb).trans h0
          have h1_c := ((bcell HB).1 _ _ hb).trans h1
          have h2_c := ((bcell HB).1 _ _ hb).trans h2
          have h3_c := ((bcell HB).1 _ _ hb).trans h3
          refine wp_region_text (fun w' => Below w.heap.size w w') (by kernel_rfl) (by kernel_rfl) (be HB (Below.refl _ _).drew) ?_
          clear h0_c
          clear h1_c
          clear h2_c
          clear h3_c
          iterate 24 (
            apply SeqH.one
            · intro uw K hS hK
              have qHB := hS
              have qh0_c := ((bcell qHB).1 _ _ hb).trans h0
              have qh1_c := ((bcell qHB).1 _ _ hb).trans h1
              have qh2_c := ((bcell qHB).1 _ _ hb).trans h2
              have qh3_c := ((bcell qHB).1 _ _ hb).trans h3
              first
                | (go_simp; exact hK.out _ qHB)
                | (go_simp; go_at_call 33; (with_reducible refine (can_spec x g t _ (rd_keep HRX.out qHB) HOK.out).mono ?_); rintro e uw1 ⟨rfl, hv⟩; rw [hc]; go_wp2_with fail; exact hK.out _ (be qHB hv))
            try simp only [Act.put, List.setIfInBounds_toArray, List.set_cons_zero, List.set_cons_succ])
          refine SeqH.end' rfl ?_
          intro v2 hS
          clear HB
          have HB := hS; clear hS
          have h0_c := ((bcell HB).1 _ _ hb).trans h0
          have h1_c := ((bcell HB).1 _ _ hb).trans h1
          have h2_c := ((bcell HB).1 _ _ hb).trans h2
          have h3_c := ((bcell HB).1 _ _ hb).trans h3
          go_wp2
          go_roundw
          case rel => exact ⟨k + 1, HL.out, by go_num, HN, HB⟩
          case measure => have := HL.out; simp [intOf]; omega
      · have hjl : j < l.length := by omega
        obtain ⟨y, hy⟩ : ∃ y, l[j] = y := ⟨_, rfl⟩
        obtain ⟨b', o', hA, hb', q0, q1, q2, q3⟩ := hs_at HR.out (Below.refl _ _) hjl hy
        obtain ⟨rfl, rfl⟩ : b = b' ∧ o = o' := by injection hA with hA; injection hA with e1 e2 _; exact ⟨e1, e2⟩
        have hrow := hs_row HR.out hjl hy
        have HRY := Lib.hid hrow.1; have HNY := Lib.hid hrow.2; clear hrow
        have HY := Lib.hid (pl_x hjl hy); clear hy hA hb'
        have HP := Lib.hid hp; clear hp
        have HJ := Lib.hid (pl_lt hjl)
        have hneg : decide ((j : Int) < 0) = false := decide_eq_false (by omega)
        cases hc : can x.pure g t
        · have HN := Lib.hid (show Ps (pick 1000 (pl l) g t (k + 1)) (.int .i64 j) (k + 1) from .inr ⟨j, (pick_no HPL.out HX.out hc).trans HP.out, by omega, rfl⟩)
          clear q0 q1 q2 q3
          go_wp2_with fail
          have h0_c := ((bcell HB).1 _ _ hb).trans h0
          have h1_c := ((bcell HB).1 _ _ hb).trans h1
          have h2_c := ((bcell HB).1 _ _ hb).trans h2
          have h3_c := ((bcell HB).1 _ _ hb).trans h3
          refine wp_region_text (fun w' => Below w.heap.size w w') (by kernel_rfl) (by kernel_rfl) (be HB (Below.refl _ _).drew) ?_
          clear h0_c
          clear h1_c
          clear h2_c
          clear h3_c
          iterate 24 (
            apply SeqH.one
            · intro uw K hS hK
              have qHB := hS
              have qh0_c := ((bcell qHB).1 _ _ hb).trans h0
              have qh1_c := ((bcell qHB).1 _ _ hb).trans h1
              have qh2_c := ((bcell qHB).1 _ _ hb).trans h2
              have qh3_c := ((bcell qHB).1 _ _ hb).trans h3
              first
                | (go_simp; exact hK.out _ qHB)
                | (go_simp; go_at_call 33; (with_reducible refine (can_spec x g t _ (rd_keep HRX.out qHB) HOK.out).mono ?_); rintro e uw1 ⟨rfl, hv⟩; rw [hc]; go_wp2_with fail; exact hK.out _ (be qHB hv))
            try simp only [Act.put, List.setIfInBounds_toArray, List.set_cons_zero, List.set_cons_succ])
          refine SeqH.end' rfl ?_
          intro v3 hS
          clear HB
          have HB := hS; clear hS
          have h0_c := ((bcell HB).1 _ _ hb).trans h0
          have h1_c := ((bcell HB).1 _ _ hb).trans h1
          have h2_c := ((bcell HB).1 _ _ hb).trans h2
          have h3_c := ((bcell HB).1 _ _ hb).trans h3
          go_wp2
          go_roundw
          case rel => exact ⟨k + 1, HL.out, by go_num, HN, HB⟩
          case measure => have := HL.out; simp [intOf]; omega
        cases hd : decide (topE 1000 x.f2.ls < topE 1000 y.f2.ls)
        · have HN := Lib.hid (show Ps (pick 1000 (pl l) g t (k + 1)) (.int .i64 j) (k + 1) from .inr ⟨j, pick_high HPL.out HX.out HP.out HJ.out HY.out (of_decide_eq_false hd), by omega, rfl⟩)
          go_wp2_with fail
          have h0_c := ((bcell HB).1 _ _ hb).trans h0
          have h1_c := ((bcell HB).1 _ _ hb).trans h1
          have h2_c := ((bcell HB).1 _ _ hb).trans h2
          have h3_c := ((bcell HB).1 _ _ hb).trans h3
          have q0_c := ((bcell HB).1 _ _ hb).trans q0
          have q1_c := ((bcell HB).1 _ _ hb).trans q1
          have q2_c := ((bcell HB).1 _ _ hb).trans q2
          have q3_c := ((bcell HB).1 _ _ hb).trans q3
          refine wp_region_text (fun w' => Below w.heap.size w w') (by kernel_rfl) (by kernel_rfl) (be HB (Below.refl _ _).drew) ?_
          clear h0_c
          clear h1_c
          clear h2_c
          clear h3_c
          clear q0_c
          clear q1_c
          clear q2_c
          clear q3_c
          iterate 24 (
            apply SeqH.one
            · intro uw K hS hK
              have qHB := hS
              have qh0_c := ((bcell qHB).1 _ _ hb).trans h0
              have qh1_c := ((bcell qHB).1 _ _ hb).trans h1
              have qh2_c := ((bcell qHB).1 _ _ hb).trans h2
              have qh3_c := ((bcell qHB).1 _ _ hb).trans h3
              have qq0_c := ((bcell qHB).1 _ _ hb).trans q0
              have qq1_c := ((bcell qHB).1 _ _ hb).trans q1
              have qq2_c := ((bcell qHB).1 _ _ hb).trans q2
              have qq3_c := ((bcell qHB).1 _ _ hb).trans q3
              first
                | (go_simp; exact hK.out _ qHB)
                | (go_simp; go_at_call 33; (with_reducible refine (can_spec x g t _ (rd_keep HRX.out qHB) HOK.out).mono ?_); rintro e uw1 ⟨rfl, hv⟩; rw [hc]; go_wp2_with fail; exact hK.out _ (be qHB hv))
                | (go_simp; go_at_call 44; (with_reducible refine (top_spec x _ (rd_keep HRX.out qHB) HNX.out).mono ?_); rintro e uw1 ⟨rfl, hv⟩; go_wp2_with fail; exact hK.out _ (be qHB hv))
                | (go_simp; go_at_call 44; (with_reducible refine (top_spec y _ (rd_keep HRY.out qHB) HNY.out).mono ?_); rintro e uw1 ⟨rfl, hv⟩; go_wp2_with fail; exact hK.out _ (be qHB hv))
            try simp only [Act.put, List.setIfInBounds_toArray, List.set_cons_zero, List.set_cons_succ])
          refine SeqH.end' rfl ?_
          intro v4 hS
          clear HB
          have HB := hS; clear hS
          have h0_c := ((bcell HB).1 _ _ hb).trans h0
          have h1_c := ((bcell HB).1 _ _ hb).trans h1
          have h2_c := ((bcell HB).1 _ _ hb).trans h2
          have h3_c := ((bcell HB).1 _ _ hb).trans h3
          have q0_c := ((bcell HB).1 _ _ hb).trans q0
          have q1_c := ((bcell HB).1 _ _ hb).trans q1
          have q2_c := ((bcell HB).1 _ _ hb).trans q2
          have q3_c := ((bcell HB).1 _ _ hb).trans q3
          go_wp2
          go_roundw
          case rel => exact ⟨k + 1, HL.out, by go_num, HN, HB⟩
          case measure => have := HL.out; simp [intOf]; omega
        · have HN := Lib.hid (show Ps (pick 1000 (pl l) g t (k + 1)) (.int .i64 k) (k + 1) from .inr ⟨k, pick_low HPL.out HX.out HP.out HJ.out HY.out hc (of_decide_eq_true hd), by omega, rfl⟩)
          go_wp2_with fail
          have h0_c := ((bcell HB).1 _ _ hb).trans h0
          have h1_c := ((bcell HB).1 _ _ hb).trans h1
          have h2_c := ((bcell HB).1 _ _ hb).trans h2
          have h3_c := ((bcell HB).1 _ _ hb).trans h3
          have q0_c := ((bcell HB).1 _ _ hb).trans q0
          have q1_c := ((bcell HB).1 _ _ hb).trans q1
          have q2_c := ((bcell HB).1 _ _ hb).trans q2
          have q3_c := ((bcell HB).1 _ _ hb).trans q3
          refine wp_region_text (fun w' => Below w.heap.size w w') (by kernel_rfl) (by kernel_rfl) (be HB (Below.refl _ _).drew) ?_
          clear h0_c
          clear h1_c
          clear h2_c
          clear h3_c
          clear q0_c
          clear q1_c
          clear q2_c
          clear q3_c
          iterate 24 (
            apply SeqH.one
            · intro uw K hS hK
              have qHB := hS
              have qh0_c := ((bcell qHB).1 _ _ hb).trans h0
              have qh1_c := ((bcell qHB).1 _ _ hb).trans h1
              have qh2_c := ((bcell qHB).1 _ _ hb).trans h2
              have qh3_c := ((bcell qHB).1 _ _ hb).trans h3
              have qq0_c := ((bcell qHB).1 _ _ hb).trans q0
              have qq1_c := ((bcell qHB).1 _ _ hb).trans q1
              have qq2_c := ((bcell qHB).1 _ _ hb).trans q2
              have qq3_c := ((bcell qHB).1 _ _ hb).trans q3
              first
                | (go_simp; exact hK.out _ qHB)
                | (go_simp; go_at_call 33; (with_reducible refine (can_spec x g t _ (rd_keep HRX.out qHB) HOK.out).mono ?_); rintro e uw1 ⟨rfl, hv⟩; rw [hc]; go_wp2_with fail; exact hK.out _ (be qHB hv))
                | (go_simp; go_at_call 44; (with_reducible refine (top_spec x _ (rd_keep HRX.out qHB) HNX.out).mono ?_); rintro e uw1 ⟨rfl, hv⟩; go_wp2_with fail; exact hK.out _ (be qHB hv))
                | (go_simp; go_at_call 44; (with_reducible refine (top_spec y _ (rd_keep HRY.out qHB) HNY.out).mono ?_); rintro e uw1 ⟨rfl, hv⟩; go_wp2_with fail; exact hK.out _ (be qHB hv))
            try simp only [Act.put, List.setIfInBounds_toArray, List.set_cons_zero, List.set_cons_succ])
          refine SeqH.end' rfl ?_
          intro v5 hS
          clear HB
          have HB := hS; clear hS
          have h0_c := ((bcell HB).1 _ _ hb).trans h0
          have h1_c := ((bcell HB).1 _ _ hb).trans h1
          have h2_c := ((bcell HB).1 _ _ hb).trans h2
          have h3_c := ((bcell HB).1 _ _ hb).trans h3
          have q0_c := ((bcell HB).1 _ _ hb).trans q0
          have q1_c := ((bcell HB).1 _ _ hb).trans q1
          have q2_c := ((bcell HB).1 _ _ hb).trans q2
          have q3_c := ((bcell HB).1 _ _ hb).trans q3
          go_wp2
          go_roundw
          case rel => exact ⟨k + 1, HL.out, by go_num, HN, HB⟩
          case measure => have := HL.out; simp [intOf]; omega
    · have hkk : k = l.length := by omega
      subst hkk
      have HS := Lib.hid ((pick_same (l := pl l) (g := g) (t := t) (good_bd HG.out) (n := l.length) (by rw [pl_len]; exact Nat.le_refl _)))
      rcases HA.out with ⟨hp, rfl⟩ | ⟨j, hp, hj, rfl⟩
      · have HV := Lib.hid (forV_none (l := pl l) (g := g) (t := t) (by rw [pl_len, HS.out]; exact hp)); clear hp
        go_wp2
        go_ret2
        exact rpost (by rw [HV.out] <;> rfl) HB
      · obtain ⟨x, hx⟩ : ∃ x, l[j] = x := ⟨_, rfl⟩
        obtain ⟨b, o, rfl, hb, h0, h1, h2, h3⟩ := hs_at HR.out HB hj hx
        have HV := Lib.hid (forV_some HG.out (by rw [pl_len, HS.out]; exact hp) (pl_lt hj) (pl_x hj hx))
        have hneg : decide ((j : Int) < 0) = false := decide_eq_false (by omega)
        clear hx hp
        go_wp2
        go_ret2
        exact rpost (by rw [HV.out] <;> rfl) HB
end Go.Proofs.YtokgncbcknpfiaaDoor.HeapR
