/- The laws on heaps, walked. Made by tools/law7.py. -/
import Derived.Test.YtoompggbdedkmaaStackS
import Derived.Test.YtoompggbdedkmaaHeapL
import Derived.Test.YtoompggbdedkmaaLaws7a
namespace Go.Proofs.Ytoompggbdedkmaa.Laws7e
open Go.RowKit Go.Proofs.Ytoompggbdedkmaa.Mem Go.Proofs.Ytoompggbdedkmaa.Base Go.Proofs.Ytoompggbdedkmaa.Regn Go.Proofs.Ytoompggbdedkmaa.Boxes Go.Proofs.Ytoompggbdedkmaa.Keep Go.Proofs.Ytoompggbdedkmaa.Nest Go.Proofs.Ytoompggbdedkmaa.HeapS Go.Proofs.Ytoompggbdedkmaa.HeapW Go.Proofs.Ytoompggbdedkmaa.HeapE Go.Proofs.Ytoompggbdedkmaa.Heap Go.Proofs.Ytoompggbdedkmaa.HeapG Go.Proofs.Ytoompggbdedkmaa.HeapL Go.Proofs.Ytoompggbdedkmaa.Stack Go.Proofs.Ytoompggbdedkmaa.TabS
set_option linter.unusedVariables false
set_option maxRecDepth 100000
structure RowL (w : World) (lo top : Nat) (r : Row) : Prop where
  own : RowOwn w lo r
  le : top ≤ w.heap.size
theorem rowl_keep {w w' : World} {lo top : Nat} {r : Row} (h : RowL w lo top r) (hb : Below w.heap.size w w') : RowL w' lo top r := ⟨h.own.keep hb, Nat.le_trans h.le hb.size⟩
theorem stk_sm (l : List Int) : TabS.Sm (stkF l) := by
  cases h : stkOk l
  · rw [stk_no h]; exact ⟨by simp, fun x hx => by cases hx⟩
  · rw [stk_yes h]
    unfold stkOk at h
    rw [Bool.and_eq_true, decide_eq_true_eq] at h
    have hok : Ok (layOk l) l.length := fun j hj => by
      have h2 := h.2
      unfold upTo at h2
      exact List.all_eq_true.1 h2 j (List.mem_range.2 hj)
    have hg := stk_gd hok (Nat.le_refl _)
    exact ⟨by omega, fun x hx => by have := okLs_len (hg.1 x hx).2; omega⟩
set_option maxHeartbeats 1600000 in
theorem stack_law (P : Option Addr) (cap : Nat) (l : List Int) (w : World) (hr : Rd w w.heap.size P (SInt.iv l)) :
    Calls Try.prog 12 #[.slice P l.length cap] w (Laws7a.Yes w) := by
  by_cases hn : l.length ≤ 1048576
  · have hbig : decide ((1048576 : Int) < l.length) = false := decide_eq_false (by omega)
    have HBD0 : TabS.Sm (stkF l) := stk_sm l
    obtain ⟨M, hM⟩ : ∃ M, stkF l = M := ⟨_, rfl⟩
    obtain ⟨q, hQ⟩ : ∃ q, stkOk l = q := ⟨_, rfl⟩
    rw [hM] at HBD0
    have HBD := Lib.hid HBD0; clear HBD0
    have HSP := Lib.hid (fun P cap W (h1 : Rd W W.heap.size P (SInt.iv l)) => show Calls _ _ _ W (TabS.TPost M q W) by have h := StackS.stack_spec P cap l W h1 hn; rw [hM, hQ] at h; exact h)
    have HIM := Lib.hid (fun P cap W (h1 : Rd W W.heap.size P (SInt.iv l)) => show Calls _ _ _ W (TabS.TPost M q W) by have h := stack_impl P cap l W h1 hn; rw [hM, hQ] at h; exact h)
    have HS := Lib.hid hr
    have hnm : l.length ≤ maxLen := by unfold maxLen; omega
    have HB := Below.refl w.heap.size w
    clear hM hQ hr
    go_enter Try.func12, Try.ntmps12
    go_wp2_with fail
    refine (toI_any P cap l _ (rd_keep HS.out HB) hn).mono ?_
    rintro e v1 ⟨rfl, O, hv1⟩
    replace HB := be HB hv1
    have zhv1 := hv1.size
    have hs := O.rd
    go_wp2_with fail
    refine (HSP.out _ _ _ hs).mono ?_
    rintro e v2 ⟨m0, A0, c0, hm0, rfl, O0, hv2⟩
    replace HB := be HB hv2
    have zhv2 := hv2.size
    have R0 := TabS.TsL.mk (Nat.le_refl _) ((TabS.TOwnL.mk O0 (Nat.le_refl _)).hs hm0 HBD.out)
    have HM0 := Lib.hid hm0
    clear O hs hm0 O0
    have hXB := HB.size
    go_wp2_with fail
    refine (toI_any P cap l _ (rd_keep HS.out HB) hn).mono ?_
    rintro e v3 ⟨rfl, OX0, hv3⟩
    replace HB := be HB hv3
    replace R0 := TabS.tsl_keep R0 hv3
    have zhv3 := hv3.size
    have OX := RowL.mk OX0 (Nat.le_refl _)
    clear OX0
    have hXlt : v2.heap.size < v3.heap.size := (OX.own.lt _ rfl).2
    have hs1 := OX.own.rd
    go_wp2_with fail
    refine (HIM.out _ _ _ hs1).mono ?_
    rintro e v4 ⟨m2, A1, c1, hm2, rfl, O10, hv4⟩
    replace HB := be HB hv4
    replace R0 := TabS.tsl_keep R0 hv4
    replace OX := rowl_keep OX hv4
    have zhv4 := hv4.size
    have O1 := TabS.TOwnL.mk O10 (Nat.le_refl _)
    have HM2 := Lib.hid hm2
    clear O10 hs1 hm2
    have hGE : v3.heap.size ≤ v4.heap.size := OX.le
    go_wp2_with fail
    refine (TabS.eqT_any A1 A0 c1 c0 m2 m0 _ (O1.hs HM2.out HBD.out) R0.all).mono ?_
    rintro e v5 ⟨rfl, hv5⟩
    replace HB := be HB hv5
    replace R0 := TabS.tsl_keep R0 hv5
    replace OX := rowl_keep OX hv5
    replace O1 := TabS.townl_keep O1 hv5
    have zhv5 := hv5.size
    rw [decide_eq_true (HM2.out.trans HM0.out.symm)]
    go_wp2_with fail
    refine (toI_any P cap l _ (rd_keep HS.out HB) hn).mono ?_
    rintro e v6 ⟨rfl, O3, hv6⟩
    replace HB := be HB hv6
    replace R0 := TabS.tsl_keep R0 hv6
    replace OX := rowl_keep OX hv6
    replace O1 := TabS.townl_keep O1 hv6
    have zhv6 := hv6.size
    have hs3 := O3.rd
    clear O3
    go_wp2_with fail
    refine (SInt.eqS_any _ _ _ _ l l _ OX.own.rd hs3 hnm hnm).mono ?_
    rintro e v7 ⟨rfl, hv7⟩
    replace HB := be HB hv7
    replace R0 := TabS.tsl_keep R0 hv7
    replace OX := rowl_keep OX hv7
    replace O1 := TabS.townl_keep O1 hv7
    have zhv7 := hv7.size
    rw [decide_eq_true rfl]
    clear hs3
    have hpos1 : decide ((1 : Int) + l.length < 0) = false := decide_eq_false (by omega)
    go_wp2_with fail
    refine (SInt.markS_any _ _ v2.heap.size l 1 _ OX.own (by omega) (by omega) (by omega)).mono ?_
    rintro e v8 ⟨rfl, om, hgw⟩
    have hg := Span.grown (lo := v2.heap.size) (hi := v3.heap.size) hgw (fun k hk => by
      have e : v2.heap.size = k := by simpa [Value.ownBlock] using hk
      subst e
      exact ⟨Nat.le_refl _, hXlt⟩)
    replace R0 := R0.span hg (Nat.le_refl _) R0.le
    replace O1 := O1.span hg (.inr (Nat.le_refl _))
    replace HB := bl_span HB hg hXB (Nat.le_trans (Nat.le_of_lt hXlt) OX.le)
    clear OX
    clear om hg hgw
    go_wp2_with fail
    refine (TabS.eqT_any A1 A0 c1 c0 m2 m0 _ (O1.hs HM2.out HBD.out) R0.all).mono ?_
    rintro e v9 ⟨rfl, hv9⟩
    replace HB := be HB hv9
    replace R0 := TabS.tsl_keep R0 hv9
    replace O1 := TabS.townl_keep O1 hv9
    have zhv9 := hv9.size
    rw [decide_eq_true (HM2.out.trans HM0.out.symm)]
    have hmt2 := TabS.sm_tot HM2.out HBD.out
    have hmr := TabS.sm_rows HM2.out HBD.out
    have hpos2 : decide ((1 : Int) + TabS.tot m2 < 0) = false := decide_eq_false (by omega)
    go_wp2_with fail
    refine (TabS.markT_any A1 c1 v3.heap.size v4.heap.size m2 1 _ O1.own (by have := hmr.1; omega) (fun x hx => by have := hmr.2 x hx; omega) (by omega) (by omega)).mono ?_
    rintro e v10 ⟨rfl, OM0, hg⟩
    replace R0 := R0.span hg (Nat.le_of_lt hXlt) (Nat.le_trans hGE O1.le)
    have OM := TabS.TOwnL.mk OM0 (Nat.le_trans O1.le hg.size)
    replace HB := bl_span HB hg (Nat.le_trans hXB (Nat.le_of_lt hXlt)) (Nat.le_trans hGE O1.le)
    clear O1
    clear hg OM0
    have hrd := OM.own.hs (by rw [TabS.marksT_len]; have := hmr.1; omega) (fun x hx => by obtain ⟨y, hy, e⟩ := TabS.mark_bd 1 m2 x hx; have := hmr.2 y hy; omega)
    go_wp2_with fail
    refine (TabS.heldT_any A1 c1 _ m2 1 _ hrd.rd hrd.rows (by have := hmr.1; omega) (fun x hx => by have := hmr.2 x hx; omega) (by omega) (by omega)).mono ?_
    rintro e v11 ⟨rfl, hd⟩
    have hd2 := hd.below v10.heap.size; clear hd hrd
    replace HB := be HB hd2
    replace R0 := TabS.tsl_keep R0 hd2
    replace OM := TabS.townl_keep OM hd2
    go_wp2_with fail
    refine (toI_any P cap l _ (rd_keep HS.out HB) hn).mono ?_
    rintro e v12 ⟨rfl, O5, hv12⟩
    replace HB := be HB hv12
    replace R0 := TabS.tsl_keep R0 hv12
    replace OM := TabS.townl_keep OM hv12
    have zhv12 := hv12.size
    have hs5 := O5.rd
    clear O5
    go_wp2_with fail
    refine (HIM.out _ _ _ hs5).mono ?_
    rintro e v13 ⟨m6, A6, c6, hm6, rfl, O6, hv13⟩
    replace HB := be HB hv13
    replace R0 := TabS.tsl_keep R0 hv13
    replace OM := TabS.townl_keep OM hv13
    have zhv13 := hv13.size
    have HM6 := Lib.hid hm6
    have hs6 := (TabS.TOwnL.mk O6 (Nat.le_refl _)).hs hm6 HBD.out
    clear hs5 hm6 O6
    go_wp2_with fail
    refine (TabS.eqT_any A6 A0 c6 c0 m6 m0 _ hs6 R0.all).mono ?_
    rintro e v14 ⟨rfl, hv14⟩
    replace HB := be HB hv14
    replace R0 := TabS.tsl_keep R0 hv14
    replace OM := TabS.townl_keep OM hv14
    have zhv14 := hv14.size
    rw [decide_eq_true (HM6.out.trans HM0.out.symm)]
    clear hs6
    have hrd := OM.own.hs (by rw [TabS.marksT_len]; have := hmr.1; omega) (fun x hx => by obtain ⟨y, hy, e⟩ := TabS.mark_bd 1 m2 x hx; have := hmr.2 y hy; omega)
    go_wp2_with fail
    refine (TabS.heldT_any A1 c1 _ m2 1 _ hrd.rd hrd.rows (by have := hmr.1; omega) (fun x hx => by have := hmr.2 x hx; omega) (by omega) (by omega)).mono ?_
    rintro e v15 ⟨rfl, hd⟩
    go_wp2
    go_ret
    exact ⟨rfl, be HB (hd.below _)⟩
  · have hbig : decide ((1048576 : Int) < l.length) = true := decide_eq_true (by omega)
    go_enter Try.func12, Try.ntmps12
    go_wp2
    go_ret
    exact ⟨rfl, Below.refl _ _⟩
end Go.Proofs.Ytoompggbdedkmaa.Laws7e
