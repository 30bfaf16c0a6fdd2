/- The laws on heaps, walked. Made by tools/law7.py. -/
import Derived.Test.YtoompggbdedkmaaHeapX
import Derived.Test.YtoompggbdedkmaaHeapL
namespace Go.Proofs.Ytoompggbdedkmaa.Laws7b
open Go.RowKit Go.Proofs.Ytoompggbdedkmaa.Mem Go.Proofs.Ytoompggbdedkmaa.Base Go.Proofs.Ytoompggbdedkmaa.Regn Go.Proofs.Ytoompggbdedkmaa.Boxes Go.Proofs.Ytoompggbdedkmaa.Keep Go.Proofs.Ytoompggbdedkmaa.Nest Go.Proofs.Ytoompggbdedkmaa.HeapS Go.Proofs.Ytoompggbdedkmaa.HeapW Go.Proofs.Ytoompggbdedkmaa.HeapE Go.Proofs.Ytoompggbdedkmaa.Heap Go.Proofs.Ytoompggbdedkmaa.HeapG Go.Proofs.Ytoompggbdedkmaa.Heap2 Go.Proofs.Ytoompggbdedkmaa.Heap3 Go.Proofs.Ytoompggbdedkmaa.HeapV Go.Proofs.Ytoompggbdedkmaa.HeapX Go.Proofs.Ytoompggbdedkmaa.HeapM Go.Proofs.Ytoompggbdedkmaa.HeapL
set_option linter.unusedVariables false
set_option maxRecDepth 100000
theorem sm_nil : Sm [] := ⟨by simp, fun x h => by cases h⟩
theorem sm_set {l : List H} (h : good l = true) (k : Nat) (y : H) (hy : y.ls.length ≤ 1000) : Sm (l.set k y) := by
  refine ⟨by rw [List.length_set]; have := good_len h; omega, fun x hx => ?_⟩
  rcases List.mem_or_eq_of_mem_set hx with h1 | h1
  · have := okLs_len (okH_true (good_mem h x h1)).2.2.2.2; omega
  · subst h1; exact hy
theorem put_sm (l : List H) (id g t : Int) : Sm (putH l id g t) := by
  cases hp : putOk l id g t
  · rw [put_no hp]; exact sm_nil
  · unfold putH
    rw [if_pos hp]
    have hf : 0 ≤ find l id := by
      unfold putOk at hp
      rw [Bool.and_eq_true, decide_eq_true_eq] at hp
      exact hp.1
    obtain ⟨k, hk, hkl, _, hg⟩ := find_ok hf
    rw [hk, Int.toNat_natCast]
    refine sm_set hg k _ ?_
    have e : atI l (k : Int) = l[k] := atI_k rfl hkl rfl
    have := okLs_len (okH_true (good_get hg k hkl)).2.2.2.2
    show ((atI l (k : Int)).ls ++ [t]).length ≤ 1000
    rw [e, List.length_append]; simp; omega
theorem take_sm (l : List H) (id t : Int) : Sm (takeH l id t) := by
  cases hp : takeOk l id t
  · rw [take_no hp]; exact sm_nil
  · unfold takeH
    rw [if_pos hp]
    have hf : 0 ≤ find l id := by
      unfold takeOk at hp
      rw [Bool.and_eq_true, Bool.and_eq_true, decide_eq_true_eq] at hp
      exact hp.1.1
    obtain ⟨k, hk, hkl, _, hg⟩ := find_ok hf
    rw [hk, Int.toNat_natCast]
    refine sm_set hg k _ ?_
    have e : atI l (k : Int) = l[k] := atI_k rfl hkl rfl
    have := okLs_len (okH_true (good_get hg k hkl)).2.2.2.2
    have := takeL_len l[k].ls t
    show (takeL (atI l (k : Int)).ls t).length ≤ 1000
    rw [e]; omega
set_option maxHeartbeats 800000 in
theorem put_law (P : Option Addr) (cap : Nat) (l : List HeapS.R) (a : Int) (b : Int) (c : Int) (w : World) (hr : Arg w P l) :
    Calls Try.prog 7 #[.slice P l.length cap, .int .i64 a, .int .i64 b, .int .i64 c] w (Yes w) := by
  obtain ⟨v, hv⟩ : ∃ v, szA 1048576 l = v := ⟨_, rfl⟩
  have HSZ := Lib.hid hv
  rcases szA_ok l with hb | ⟨hb, hn, hrn⟩
  · have HE := Lib.hid hb; clear hb hv
    go_enter Try.func7, Try.ntmps7
    go_wp2_with fail
    refine (szS_any P cap l w hr).mono ?_
    rintro e v1 ⟨rfl, hb0⟩
    rw [HE.out]
    go_wp2
    go_ret
    exact ⟨rfl, hb0⟩
  have HBD0 : Sm (putH (pl l) a b c) := put_sm (pl l) a b c
  obtain ⟨M, hM⟩ : ∃ M, putH (pl l) a b c = M := ⟨_, rfl⟩
  obtain ⟨q, hQ⟩ : ∃ q, putOk (pl l) a b c = q := ⟨_, rfl⟩
  rw [hM] at HBD0
  have HBD := Lib.hid HBD0; clear HBD0
  have HSP := Lib.hid (fun P cap (m : List HeapS.R) W (h1 : Hs W W.heap.size P m) (h2 : pl m = pl l) => show Calls _ _ _ W (HPost M q W) by have h := put_spec P cap m a b c W h1; rw [h2, hM, hQ] at h; exact h)
  have HIM := Lib.hid (fun P cap (m : List HeapS.R) W (h1 : Hs W W.heap.size P m) (h2 : pl m = pl l) => show Calls _ _ _ W (HPost M q W) by have h := put_impl P cap m a b c W h1; rw [h2, hM, hQ] at h; exact h)
  have HS := Lib.hid (hr.hs hn hrn)
  have HT := Lib.hid (szA_tot hb)
  have hv0 : decide (v < 0) = false := by rw [← hv]; exact decide_eq_false (by omega)
  clear hb hv hrn hM hQ
  go_enter Try.func7, Try.ntmps7
  go_wp2_with fail
  refine (szS_any P cap l w hr).mono ?_
  rintro e v1 ⟨rfl, HB⟩
  rw [HSZ.out]
  clear hr
  go_wp2_with fail
  refine (toS_any P cap l _ (HS.out.keep HB)).mono ?_
  rintro e v2 ⟨m, hm, rfl, O, hv2⟩
  replace HB := be HB hv2
  have zhv2 := hv2.size
  have hs := HeapL.hs_of O (Nat.le_refl _) hm HS.out
  go_wp2_with fail
  refine (HSP.out _ _ m _ hs hm).mono ?_
  rintro e v3 ⟨m0, A0, c0, hm0, rfl, O0, hv3⟩
  replace HB := be HB hv3
  have zhv3 := hv3.size
  have R0 := HsL.mk (Nat.le_refl _) ((OwnL.mk O0 (Nat.le_refl _)).hs hm0 HBD.out)
  have HM0 := Lib.hid hm0
  clear O hs hm hm0 O0
  have hXB := HB.size
  go_wp2_with fail
  refine (toS_any P cap l _ (HS.out.keep HB)).mono ?_
  rintro e v4 ⟨m1, hm1, rfl, OX0, hv4⟩
  replace HB := be HB hv4
  replace R0 := hsl_keep R0 hv4
  have zhv4 := hv4.size
  have OX := OwnL.mk OX0 (Nat.le_refl _)
  have hs1 := HeapL.hs_of OX0 (Nat.le_refl _) hm1 HS.out
  have HM1 := Lib.hid hm1
  clear OX0
  have hXG : v3.heap.size ≤ v4.heap.size := R0.le
  go_wp2_with fail
  refine (HIM.out _ _ m1 _ hs1 hm1).mono ?_
  rintro e v5 ⟨m2, A1, c1, hm2, rfl, O10, hv5⟩
  replace HB := be HB hv5
  replace R0 := hsl_keep R0 hv5
  replace OX := ownl_keep OX hv5
  have zhv5 := hv5.size
  have O1 := OwnL.mk O10 (Nat.le_refl _)
  have HM2 := Lib.hid hm2
  clear O10 hs1 hm1 hm2
  have hGE : v4.heap.size ≤ v5.heap.size := OX.le
  go_wp2_with fail
  refine (HeapE.eqS_any A1 A0 c1 c0 m2 m0 _ (O1.hs HM2.out HBD.out) R0.all).mono ?_
  rintro e v6 ⟨rfl, hv6⟩
  replace HB := be HB hv6
  replace R0 := hsl_keep R0 hv6
  replace OX := ownl_keep OX hv6
  replace O1 := ownl_keep O1 hv6
  have zhv6 := hv6.size
  rw [decide_eq_true (HM2.out.trans HM0.out.symm)]
  go_wp2_with fail
  refine (toS_any P cap l _ (HS.out.keep HB)).mono ?_
  rintro e v7 ⟨m3, hm3, rfl, O3, hv7⟩
  replace HB := be HB hv7
  replace R0 := hsl_keep R0 hv7
  replace OX := ownl_keep OX hv7
  replace O1 := ownl_keep O1 hv7
  have zhv7 := hv7.size
  have hs3 := HeapL.hs_of O3 (Nat.le_refl _) hm3 HS.out
  have HM3 := Lib.hid hm3
  clear O3 hm3
  go_wp2_with fail
  refine (HeapE.eqS_any _ _ _ _ m1 m3 _ (HeapL.hs_of OX.own OX.le HM1.out HS.out) hs3).mono ?_
  rintro e v8 ⟨rfl, hv8⟩
  replace HB := be HB hv8
  replace R0 := hsl_keep R0 hv8
  replace OX := ownl_keep OX hv8
  replace O1 := ownl_keep O1 hv8
  have zhv8 := hv8.size
  rw [decide_eq_true (HM1.out.trans HM3.out.symm)]
  clear hs3
  have hsX := HeapL.hs_of OX.own OX.le HM1.out HS.out
  have hmt : tot m1 ≤ 5000000 := by rw [pl_tot HM1.out]; exact HT.out
  have hpos1 : decide ((1 : Int) + tot m1 < 0) = false := decide_eq_false (by omega)
  go_wp2_with fail
  refine (HeapM.markS_any _ _ v3.heap.size v4.heap.size m1 1 _ OX.own (by have := hsX.len; omega) hsX.rlen (by omega) (by omega)).mono ?_
  rintro e v9 ⟨rfl, om, hg⟩
  replace R0 := R0.span hg (Nat.le_refl _) R0.le
  replace O1 := O1.span hg (.inr (Nat.le_refl _))
  replace HB := bl_span HB hg hXB (Nat.le_trans hXG OX.le)
  clear OX
  clear om hg hsX hmt
  go_wp2_with fail
  refine (HeapE.eqS_any A1 A0 c1 c0 m2 m0 _ (O1.hs HM2.out HBD.out) R0.all).mono ?_
  rintro e v10 ⟨rfl, hv10⟩
  replace HB := be HB hv10
  replace R0 := hsl_keep R0 hv10
  replace O1 := ownl_keep O1 hv10
  have zhv10 := hv10.size
  rw [decide_eq_true (HM2.out.trans HM0.out.symm)]
  have hmt2 := sm_tot HM2.out HBD.out
  have hmr := sm_rows HM2.out HBD.out
  have hpos2 : decide ((1 : Int) + tot m2 < 0) = false := decide_eq_false (by omega)
  go_wp2_with fail
  refine (HeapM.markS_any A1 c1 v4.heap.size v5.heap.size m2 1 _ O1.own (by have := hmr.1; omega) (fun x hx => by have := hmr.2 x hx; omega) (by omega) (by omega)).mono ?_
  rintro e v11 ⟨rfl, OM0, hg⟩
  replace R0 := R0.span hg hXG (Nat.le_trans hGE O1.le)
  have OM := OwnL.mk OM0 (Nat.le_trans O1.le hg.size)
  replace HB := bl_span HB hg (Nat.le_trans hXB hXG) (Nat.le_trans hGE O1.le)
  clear O1
  clear hg OM0
  have hrd := OM.own.hs (by rw [marksL_len]; have := hmr.1; omega) (fun x hx => by obtain ⟨y, hy, e⟩ := mark_bd 1 m2 x hx; have := hmr.2 y hy; omega)
  go_wp2_with fail
  refine (HeapM.heldS_any A1 c1 _ m2 1 _ hrd.rd hrd.rows (by have := hmr.1; omega) (fun x hx => by have := hmr.2 x hx; omega) (by omega) (by omega)).mono ?_
  rintro e v12 ⟨rfl, hd⟩
  have hd2 := hd.below v11.heap.size; clear hd hrd
  replace HB := be HB hd2
  replace R0 := hsl_keep R0 hd2
  replace OM := ownl_keep OM hd2
  go_wp2_with fail
  refine (toS_any P cap l _ (HS.out.keep HB)).mono ?_
  rintro e v13 ⟨m5, hm5, rfl, O5, hv13⟩
  replace HB := be HB hv13
  replace R0 := hsl_keep R0 hv13
  replace OM := ownl_keep OM hv13
  have zhv13 := hv13.size
  have hs5 := HeapL.hs_of O5 (Nat.le_refl _) hm5 HS.out
  clear O5
  go_wp2_with fail
  refine (HIM.out _ _ m5 _ hs5 hm5).mono ?_
  rintro e v14 ⟨m6, A6, c6, hm6, rfl, O6, hv14⟩
  replace HB := be HB hv14
  replace R0 := hsl_keep R0 hv14
  replace OM := ownl_keep OM hv14
  have zhv14 := hv14.size
  have HM6 := Lib.hid hm6
  have hs6 := (OwnL.mk O6 (Nat.le_refl _)).hs hm6 HBD.out
  clear hs5 hm5 hm6 O6
  go_wp2_with fail
  refine (HeapE.eqS_any A6 A0 c6 c0 m6 m0 _ hs6 R0.all).mono ?_
  rintro e v15 ⟨rfl, hv15⟩
  replace HB := be HB hv15
  replace R0 := hsl_keep R0 hv15
  replace OM := ownl_keep OM hv15
  have zhv15 := hv15.size
  rw [decide_eq_true (HM6.out.trans HM0.out.symm)]
  clear hs6
  have hrd := OM.own.hs (by rw [marksL_len]; have := hmr.1; omega) (fun x hx => by obtain ⟨y, hy, e⟩ := mark_bd 1 m2 x hx; have := hmr.2 y hy; omega)
  go_wp2_with fail
  refine (HeapM.heldS_any A1 c1 _ m2 1 _ hrd.rd hrd.rows (by have := hmr.1; omega) (fun x hx => by have := hmr.2 x hx; omega) (by omega) (by omega)).mono ?_
  rintro e v16 ⟨rfl, hd⟩
  go_wp2
  go_ret
  exact ⟨rfl, be HB (hd.below _)⟩
set_option maxHeartbeats 800000 in
theorem take_law (P : Option Addr) (cap : Nat) (l : List HeapS.R) (a : Int) (b : Int) (w : World) (hr : Arg w P l) :
    Calls Try.prog 9 #[.slice P l.length cap, .int .i64 a, .int .i64 b] w (Yes w) := by
  obtain ⟨v, hv⟩ : ∃ v, szA 1048576 l = v := ⟨_, rfl⟩
  have HSZ := Lib.hid hv
  rcases szA_ok l with hb | ⟨hb, hn, hrn⟩
  · have HE := Lib.hid hb; clear hb hv
    go_enter Try.func9, Try.ntmps9
    go_wp2_with fail
    refine (szS_any P cap l w hr).mono ?_
    rintro e v1 ⟨rfl, hb0⟩
    rw [HE.out]
    go_wp2
    go_ret
    exact ⟨rfl, hb0⟩
  have HBD0 : Sm (takeH (pl l) a b) := take_sm (pl l) a b
  obtain ⟨M, hM⟩ : ∃ M, takeH (pl l) a b = M := ⟨_, rfl⟩
  obtain ⟨q, hQ⟩ : ∃ q, takeOk (pl l) a b = q := ⟨_, rfl⟩
  rw [hM] at HBD0
  have HBD := Lib.hid HBD0; clear HBD0
  have HSP := Lib.hid (fun P cap (m : List HeapS.R) W (h1 : Hs W W.heap.size P m) (h2 : pl m = pl l) => show Calls _ _ _ W (HPost M q W) by have h := takeT_spec P cap m a b W h1; rw [h2, hM, hQ] at h; exact h)
  have HIM := Lib.hid (fun P cap (m : List HeapS.R) W (h1 : Hs W W.heap.size P m) (h2 : pl m = pl l) => show Calls _ _ _ W (HPost M q W) by have h := takeT_impl P cap m a b W h1; rw [h2, hM, hQ] at h; exact h)
  have HS := Lib.hid (hr.hs hn hrn)
  have HT := Lib.hid (szA_tot hb)
  have hv0 : decide (v < 0) = false := by rw [← hv]; exact decide_eq_false (by omega)
  clear hb hv hrn hM hQ
  go_enter Try.func9, Try.ntmps9
  go_wp2_with fail
  refine (szS_any P cap l w hr).mono ?_
  rintro e v1 ⟨rfl, HB⟩
  rw [HSZ.out]
  clear hr
  go_wp2_with fail
  refine (toS_any P cap l _ (HS.out.keep HB)).mono ?_
  rintro e v2 ⟨m, hm, rfl, O, hv2⟩
  replace HB := be HB hv2
  have zhv2 := hv2.size
  have hs := HeapL.hs_of O (Nat.le_refl _) hm HS.out
  go_wp2_with fail
  refine (HSP.out _ _ m _ hs hm).mono ?_
  rintro e v3 ⟨m0, A0, c0, hm0, rfl, O0, hv3⟩
  replace HB := be HB hv3
  have zhv3 := hv3.size
  have R0 := HsL.mk (Nat.le_refl _) ((OwnL.mk O0 (Nat.le_refl _)).hs hm0 HBD.out)
  have HM0 := Lib.hid hm0
  clear O hs hm hm0 O0
  have hXB := HB.size
  go_wp2_with fail
  refine (toS_any P cap l _ (HS.out.keep HB)).mono ?_
  rintro e v4 ⟨m1, hm1, rfl, OX0, hv4⟩
  replace HB := be HB hv4
  replace R0 := hsl_keep R0 hv4
  have zhv4 := hv4.size
  have OX := OwnL.mk OX0 (Nat.le_refl _)
  have hs1 := HeapL.hs_of OX0 (Nat.le_refl _) hm1 HS.out
  have HM1 := Lib.hid hm1
  clear OX0
  have hXG : v3.heap.size ≤ v4.heap.size := R0.le
  go_wp2_with fail
  refine (HIM.out _ _ m1 _ hs1 hm1).mono ?_
  rintro e v5 ⟨m2, A1, c1, hm2, rfl, O10, hv5⟩
  replace HB := be HB hv5
  replace R0 := hsl_keep R0 hv5
  replace OX := ownl_keep OX hv5
  have zhv5 := hv5.size
  have O1 := OwnL.mk O10 (Nat.le_refl _)
  have HM2 := Lib.hid hm2
  clear O10 hs1 hm1 hm2
  have hGE : v4.heap.size ≤ v5.heap.size := OX.le
  go_wp2_with fail
  refine (HeapE.eqS_any A1 A0 c1 c0 m2 m0 _ (O1.hs HM2.out HBD.out) R0.all).mono ?_
  rintro e v6 ⟨rfl, hv6⟩
  replace HB := be HB hv6
  replace R0 := hsl_keep R0 hv6
  replace OX := ownl_keep OX hv6
  replace O1 := ownl_keep O1 hv6
  have zhv6 := hv6.size
  rw [decide_eq_true (HM2.out.trans HM0.out.symm)]
  go_wp2_with fail
  refine (toS_any P cap l _ (HS.out.keep HB)).mono ?_
  rintro e v7 ⟨m3, hm3, rfl, O3, hv7⟩
  replace HB := be HB hv7
  replace R0 := hsl_keep R0 hv7
  replace OX := ownl_keep OX hv7
  replace O1 := ownl_keep O1 hv7
  have zhv7 := hv7.size
  have hs3 := HeapL.hs_of O3 (Nat.le_refl _) hm3 HS.out
  have HM3 := Lib.hid hm3
  clear O3 hm3
  go_wp2_with fail
  refine (HeapE.eqS_any _ _ _ _ m1 m3 _ (HeapL.hs_of OX.own OX.le HM1.out HS.out) hs3).mono ?_
  rintro e v8 ⟨rfl, hv8⟩
  replace HB := be HB hv8
  replace R0 := hsl_keep R0 hv8
  replace OX := ownl_keep OX hv8
  replace O1 := ownl_keep O1 hv8
  have zhv8 := hv8.size
  rw [decide_eq_true (HM1.out.trans HM3.out.symm)]
  clear hs3
  have hsX := HeapL.hs_of OX.own OX.le HM1.out HS.out
  have hmt : tot m1 ≤ 5000000 := by rw [pl_tot HM1.out]; exact HT.out
  have hpos1 : decide ((1 : Int) + tot m1 < 0) = false := decide_eq_false (by omega)
  go_wp2_with fail
  refine (HeapM.markS_any _ _ v3.heap.size v4.heap.size m1 1 _ OX.own (by have := hsX.len; omega) hsX.rlen (by omega) (by omega)).mono ?_
  rintro e v9 ⟨rfl, om, hg⟩
  replace R0 := R0.span hg (Nat.le_refl _) R0.le
  replace O1 := O1.span hg (.inr (Nat.le_refl _))
  replace HB := bl_span HB hg hXB (Nat.le_trans hXG OX.le)
  clear OX
  clear om hg hsX hmt
  go_wp2_with fail
  refine (HeapE.eqS_any A1 A0 c1 c0 m2 m0 _ (O1.hs HM2.out HBD.out) R0.all).mono ?_
  rintro e v10 ⟨rfl, hv10⟩
  replace HB := be HB hv10
  replace R0 := hsl_keep R0 hv10
  replace O1 := ownl_keep O1 hv10
  have zhv10 := hv10.size
  rw [decide_eq_true (HM2.out.trans HM0.out.symm)]
  have hmt2 := sm_tot HM2.out HBD.out
  have hmr := sm_rows HM2.out HBD.out
  have hpos2 : decide ((1 : Int) + tot m2 < 0) = false := decide_eq_false (by omega)
  go_wp2_with fail
  refine (HeapM.markS_any A1 c1 v4.heap.size v5.heap.size m2 1 _ O1.own (by have := hmr.1; omega) (fun x hx => by have := hmr.2 x hx; omega) (by omega) (by omega)).mono ?_
  rintro e v11 ⟨rfl, OM0, hg⟩
  replace R0 := R0.span hg hXG (Nat.le_trans hGE O1.le)
  have OM := OwnL.mk OM0 (Nat.le_trans O1.le hg.size)
  replace HB := bl_span HB hg (Nat.le_trans hXB hXG) (Nat.le_trans hGE O1.le)
  clear O1
  clear hg OM0
  have hrd := OM.own.hs (by rw [marksL_len]; have := hmr.1; omega) (fun x hx => by obtain ⟨y, hy, e⟩ := mark_bd 1 m2 x hx; have := hmr.2 y hy; omega)
  go_wp2_with fail
  refine (HeapM.heldS_any A1 c1 _ m2 1 _ hrd.rd hrd.rows (by have := hmr.1; omega) (fun x hx => by have := hmr.2 x hx; omega) (by omega) (by omega)).mono ?_
  rintro e v12 ⟨rfl, hd⟩
  have hd2 := hd.below v11.heap.size; clear hd hrd
  replace HB := be HB hd2
  replace R0 := hsl_keep R0 hd2
  replace OM := ownl_keep OM hd2
  go_wp2_with fail
  refine (toS_any P cap l _ (HS.out.keep HB)).mono ?_
  rintro e v13 ⟨m5, hm5, rfl, O5, hv13⟩
  replace HB := be HB hv13
  replace R0 := hsl_keep R0 hv13
  replace OM := ownl_keep OM hv13
  have zhv13 := hv13.size
  have hs5 := HeapL.hs_of O5 (Nat.le_refl _) hm5 HS.out
  clear O5
  go_wp2_with fail
  refine (HIM.out _ _ m5 _ hs5 hm5).mono ?_
  rintro e v14 ⟨m6, A6, c6, hm6, rfl, O6, hv14⟩
  replace HB := be HB hv14
  replace R0 := hsl_keep R0 hv14
  replace OM := ownl_keep OM hv14
  have zhv14 := hv14.size
  have HM6 := Lib.hid hm6
  have hs6 := (OwnL.mk O6 (Nat.le_refl _)).hs hm6 HBD.out
  clear hs5 hm5 hm6 O6
  go_wp2_with fail
  refine (HeapE.eqS_any A6 A0 c6 c0 m6 m0 _ hs6 R0.all).mono ?_
  rintro e v15 ⟨rfl, hv15⟩
  replace HB := be HB hv15
  replace R0 := hsl_keep R0 hv15
  replace OM := ownl_keep OM hv15
  have zhv15 := hv15.size
  rw [decide_eq_true (HM6.out.trans HM0.out.symm)]
  clear hs6
  have hrd := OM.own.hs (by rw [marksL_len]; have := hmr.1; omega) (fun x hx => by obtain ⟨y, hy, e⟩ := mark_bd 1 m2 x hx; have := hmr.2 y hy; omega)
  go_wp2_with fail
  refine (HeapM.heldS_any A1 c1 _ m2 1 _ hrd.rd hrd.rows (by have := hmr.1; omega) (fun x hx => by have := hmr.2 x hx; omega) (by omega) (by omega)).mono ?_
  rintro e v16 ⟨rfl, hd⟩
  go_wp2
  go_ret
  exact ⟨rfl, be HB (hd.below _)⟩
end Go.Proofs.Ytoompggbdedkmaa.Laws7b
