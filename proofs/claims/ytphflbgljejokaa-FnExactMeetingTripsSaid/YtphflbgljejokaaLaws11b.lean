/- The laws on trips whose answers are tables, walked. Made by tools/mk_law11.py. -/
import Derived.Test.YtphflbgljejokaaLaws11a
import Derived.Test.YtphflbgljejokaaTripU
namespace Go.Proofs.Ytphflbgljejokaa.Laws11b
open Go.RowKit Go.Proofs.Ytphflbgljejokaa.Mem Go.Proofs.Ytphflbgljejokaa.Base Go.Proofs.Ytphflbgljejokaa.Nest Go.Proofs.Ytphflbgljejokaa.STrip Go.Proofs.Ytphflbgljejokaa.Regn Go.Proofs.Ytphflbgljejokaa.Boxes Go.Proofs.Ytphflbgljejokaa.Keep Go.Proofs.Ytphflbgljejokaa.TripP Go.Proofs.Ytphflbgljejokaa.TripT Go.Proofs.Ytphflbgljejokaa.TripU
set_option linter.unusedVariables false
set_option linter.unusedSimpArgs false
set_option maxRecDepth 100000
abbrev Yes := Laws11a.Yes
theorem bl_span {w u v : World} {lo hi : Nat} (h : Below w.heap.size w u) (hs : Span lo hi u v) (h1 : w.heap.size ≤ lo) (h2 : lo ≤ u.heap.size) : Below w.heap.size w v := h.trans (hs.below h2 h1)
theorem box_span {g : Nat} {cs : List Value} {w W W' : World} {lo hi : Nat} (h : Box g cs w W) (hs : Span lo hi W W') (hg : g < lo) (hw : w.heap.size ≤ lo) (hl : lo ≤ W.heap.size) : Box g cs w W' := by
  have hb : W'.heap[g]? = W.heap[g]? := hs.block g h.there (.inl hg)
  exact ⟨fun i v hv => (World.cell?_of_block (w := W) hb).trans (h.cells i v hv), fun i hi => (World.frozen?_of_block (w := W) hb).trans (h.free i hi), h.base, Nat.lt_of_lt_of_le h.there hs.size, bl_span h.below hs hw hl⟩
set_option maxHeartbeats 1600000 in
theorem sec_law (t : R) (w : World) : Calls Try.prog 8 #[.agg #[.int .i64 t.f0, .int .i64 t.f1, .int .i64 t.f2, .int .i64 t.f3, .int .i64 t.f4]] w (Yes w) := by
  have HBD0 : TabS.Sm (secF t) := sec_sm t
  obtain ⟨M, hM⟩ : ∃ M, secF t = M := ⟨_, rfl⟩
  obtain ⟨q, hQ⟩ : ∃ q, okT t = q := ⟨_, rfl⟩
  rw [hM] at HBD0
  have HBD := Lib.hid HBD0; clear HBD0
  have HSP := Lib.hid (fun W => show Calls _ _ _ W (TabS.TPost M q W) by have h := sec_spec t W; rw [hM, hQ] at h; exact h)
  have HIM := Lib.hid (fun W => show Calls _ _ _ W (TabS.TPost M q W) by have h := sec_impl t W; rw [hM, hQ] at h; exact h)
  clear hM hQ
  go_enter Try.func8, Try.ntmps8
  go_wp2_with fail
  have P := Box.new (Below.refl _ w) [.int .i64 t.f0, .int .i64 t.f1, .int .i64 t.f2, .int .i64 t.f3, .int .i64 t.f4] 54 (g := w.heap.size) rfl
  generalize (w.alloc (.cells #[.int .i64 t.f0, .int .i64 t.f1, .int .i64 t.f2, .int .i64 t.f3, .int .i64 t.f4] 54)) = W1 at P ⊢
  have P_0 := P.cells 0 _ rfl
  have P_1 := P.cells 1 _ rfl
  have P_2 := P.cells 2 _ rfl
  have P_3 := P.cells 3 _ rfl
  have P_4 := P.cells 4 _ rfl
  have P_f0 := P.free 0 (by simp)
  have P_f1 := P.free 1 (by simp)
  have P_f2 := P.free 2 (by simp)
  have P_f3 := P.free 3 (by simp)
  have P_f4 := P.free 4 (by simp)
  have P_t := P.there
  go_wp2_with fail
  refine (STrip.to_any t _).mono ?_
  rintro e v2 ⟨rfl, hv2⟩
  clear P_0 P_1 P_2 P_3 P_4 P_f0 P_f1 P_f2 P_f3 P_f4 P_t
  replace P := P.more hv2
  have zhv2 := hv2.size
  clear hv2
  have P_0 := P.cells 0 _ rfl
  have P_1 := P.cells 1 _ rfl
  have P_2 := P.cells 2 _ rfl
  have P_3 := P.cells 3 _ rfl
  have P_4 := P.cells 4 _ rfl
  have P_f0 := P.free 0 (by simp)
  have P_f1 := P.free 1 (by simp)
  have P_f2 := P.free 2 (by simp)
  have P_f3 := P.free 3 (by simp)
  have P_f4 := P.free 4 (by simp)
  have P_t := P.there
  unfold STrip.R.val
  go_wp2_with fail
  refine (HSP.out _).mono ?_
  rintro e v3 ⟨m0, A0, c0, hm0, rfl, O0, hv3⟩
  clear P_0 P_1 P_2 P_3 P_4 P_f0 P_f1 P_f2 P_f3 P_f4 P_t
  replace P := P.more hv3
  have zhv3 := hv3.size
  clear hv3
  have P_0 := P.cells 0 _ rfl
  have P_1 := P.cells 1 _ rfl
  have P_2 := P.cells 2 _ rfl
  have P_3 := P.cells 3 _ rfl
  have P_4 := P.cells 4 _ rfl
  have P_f0 := P.free 0 (by simp)
  have P_f1 := P.free 1 (by simp)
  have P_f2 := P.free 2 (by simp)
  have P_f3 := P.free 3 (by simp)
  have P_f4 := P.free 4 (by simp)
  have P_t := P.there
  have R0 := TabS.TsL.mk (Nat.le_refl _) ((TabS.TOwnL.mk O0 (Nat.le_refl _)).hs hm0 HBD.out)
  have HM0 := Lib.hid hm0
  clear hm0 O0
  go_wp2_with fail
  refine (STrip.to_any t _).mono ?_
  rintro e v4 ⟨rfl, hv4⟩
  clear P_0 P_1 P_2 P_3 P_4 P_f0 P_f1 P_f2 P_f3 P_f4 P_t
  replace P := P.more hv4
  replace R0 := TabS.tsl_keep R0 hv4
  have zhv4 := hv4.size
  clear hv4
  have P_0 := P.cells 0 _ rfl
  have P_1 := P.cells 1 _ rfl
  have P_2 := P.cells 2 _ rfl
  have P_3 := P.cells 3 _ rfl
  have P_4 := P.cells 4 _ rfl
  have P_f0 := P.free 0 (by simp)
  have P_f1 := P.free 1 (by simp)
  have P_f2 := P.free 2 (by simp)
  have P_f3 := P.free 3 (by simp)
  have P_f4 := P.free 4 (by simp)
  have P_t := P.there
  unfold STrip.R.val
  have HGW := Below.refl v4.heap.size v4
  have hXG : v3.heap.size ≤ v4.heap.size := R0.le
  have hPG := P.there
  have hwG := P.below.size
  go_wp2_with fail
  refine (HIM.out _).mono ?_
  rintro e v5 ⟨m2, A1, c1, hm2, rfl, O10, hv5⟩
  clear P_0 P_1 P_2 P_3 P_4 P_f0 P_f1 P_f2 P_f3 P_f4 P_t
  replace P := P.more hv5
  replace R0 := TabS.tsl_keep R0 hv5
  replace HGW := be HGW hv5
  have zhv5 := hv5.size
  clear hv5
  have P_0 := P.cells 0 _ rfl
  have P_1 := P.cells 1 _ rfl
  have P_2 := P.cells 2 _ rfl
  have P_3 := P.cells 3 _ rfl
  have P_4 := P.cells 4 _ rfl
  have P_f0 := P.free 0 (by simp)
  have P_f1 := P.free 1 (by simp)
  have P_f2 := P.free 2 (by simp)
  have P_f3 := P.free 3 (by simp)
  have P_f4 := P.free 4 (by simp)
  have P_t := P.there
  have O1 := TabS.TOwnL.mk O10 (Nat.le_refl _)
  have HM2 := Lib.hid hm2
  clear O10 hm2
  have hGE : v4.heap.size ≤ v5.heap.size := HGW.size
  clear HGW
  go_wp2_with fail
  refine (TabS.eqT_any A1 A0 c1 c0 m2 m0 _ (O1.hs HM2.out HBD.out) R0.all).mono ?_
  rintro e v6 ⟨rfl, hv6⟩
  clear P_0 P_1 P_2 P_3 P_4 P_f0 P_f1 P_f2 P_f3 P_f4 P_t
  replace P := P.more hv6
  replace R0 := TabS.tsl_keep R0 hv6
  replace O1 := TabS.townl_keep O1 hv6
  have zhv6 := hv6.size
  clear hv6
  have P_0 := P.cells 0 _ rfl
  have P_1 := P.cells 1 _ rfl
  have P_2 := P.cells 2 _ rfl
  have P_3 := P.cells 3 _ rfl
  have P_4 := P.cells 4 _ rfl
  have P_f0 := P.free 0 (by simp)
  have P_f1 := P.free 1 (by simp)
  have P_f2 := P.free 2 (by simp)
  have P_f3 := P.free 3 (by simp)
  have P_f4 := P.free 4 (by simp)
  have P_t := P.there
  rw [decide_eq_true (HM2.out.trans HM0.out.symm)]
  have hmt2 := TabS.sm_tot HM2.out HBD.out
  have hmr := TabS.sm_rows HM2.out HBD.out
  have hpos2 : decide ((1 : Int) + TabS.tot m2 < 0) = false := decide_eq_false (by omega)
  go_wp2_with fail
  refine (TabS.markT_any A1 c1 v4.heap.size v5.heap.size m2 1 _ O1.own (by have := hmr.1; omega) (fun x hx => by have := hmr.2 x hx; omega) (by omega) (by omega)).mono ?_
  rintro e v7 ⟨rfl, OM0, hg⟩
  clear P_0 P_1 P_2 P_3 P_4 P_f0 P_f1 P_f2 P_f3 P_f4 P_t
  replace R0 := R0.span hg hXG (Nat.le_trans hGE O1.le)
  have OM := TabS.TOwnL.mk OM0 (Nat.le_trans O1.le hg.size)
  replace P := box_span P hg hPG hwG (Nat.le_trans hGE O1.le)
  clear O1
  clear hg OM0
  have P_0 := P.cells 0 _ rfl
  have P_1 := P.cells 1 _ rfl
  have P_2 := P.cells 2 _ rfl
  have P_3 := P.cells 3 _ rfl
  have P_4 := P.cells 4 _ rfl
  have P_f0 := P.free 0 (by simp)
  have P_f1 := P.free 1 (by simp)
  have P_f2 := P.free 2 (by simp)
  have P_f3 := P.free 3 (by simp)
  have P_f4 := P.free 4 (by simp)
  have P_t := P.there
  have hrd := OM.own.hs (by rw [TabS.marksT_len]; have := hmr.1; omega) (fun x hx => by obtain ⟨y, hy, e⟩ := TabS.mark_bd 1 m2 x hx; have := hmr.2 y hy; omega)
  go_wp2_with fail
  refine (TabS.heldT_any A1 c1 _ m2 1 _ hrd.rd hrd.rows (by have := hmr.1; omega) (fun x hx => by have := hmr.2 x hx; omega) (by omega) (by omega)).mono ?_
  rintro e v8 ⟨rfl, hd⟩
  have hd2 := hd.below v7.heap.size; clear hd hrd
  clear P_0 P_1 P_2 P_3 P_4 P_f0 P_f1 P_f2 P_f3 P_f4 P_t
  replace P := P.more hd2
  replace R0 := TabS.tsl_keep R0 hd2
  replace OM := TabS.townl_keep OM hd2
  clear hd2
  have P_0 := P.cells 0 _ rfl
  have P_1 := P.cells 1 _ rfl
  have P_2 := P.cells 2 _ rfl
  have P_3 := P.cells 3 _ rfl
  have P_4 := P.cells 4 _ rfl
  have P_f0 := P.free 0 (by simp)
  have P_f1 := P.free 1 (by simp)
  have P_f2 := P.free 2 (by simp)
  have P_f3 := P.free 3 (by simp)
  have P_f4 := P.free 4 (by simp)
  have P_t := P.there
  go_wp2_with fail
  refine (STrip.to_any t _).mono ?_
  rintro e v9 ⟨rfl, hv9⟩
  clear P_0 P_1 P_2 P_3 P_4 P_f0 P_f1 P_f2 P_f3 P_f4 P_t
  replace P := P.more hv9
  replace R0 := TabS.tsl_keep R0 hv9
  replace OM := TabS.townl_keep OM hv9
  have zhv9 := hv9.size
  clear hv9
  have P_0 := P.cells 0 _ rfl
  have P_1 := P.cells 1 _ rfl
  have P_2 := P.cells 2 _ rfl
  have P_3 := P.cells 3 _ rfl
  have P_4 := P.cells 4 _ rfl
  have P_f0 := P.free 0 (by simp)
  have P_f1 := P.free 1 (by simp)
  have P_f2 := P.free 2 (by simp)
  have P_f3 := P.free 3 (by simp)
  have P_f4 := P.free 4 (by simp)
  have P_t := P.there
  unfold STrip.R.val
  go_wp2_with fail
  refine (HIM.out _).mono ?_
  rintro e v10 ⟨m6, A6, c6, hm6, rfl, O6, hv10⟩
  clear P_0 P_1 P_2 P_3 P_4 P_f0 P_f1 P_f2 P_f3 P_f4 P_t
  replace P := P.more hv10
  replace R0 := TabS.tsl_keep R0 hv10
  replace OM := TabS.townl_keep OM hv10
  have zhv10 := hv10.size
  clear hv10
  have P_0 := P.cells 0 _ rfl
  have P_1 := P.cells 1 _ rfl
  have P_2 := P.cells 2 _ rfl
  have P_3 := P.cells 3 _ rfl
  have P_4 := P.cells 4 _ rfl
  have P_f0 := P.free 0 (by simp)
  have P_f1 := P.free 1 (by simp)
  have P_f2 := P.free 2 (by simp)
  have P_f3 := P.free 3 (by simp)
  have P_f4 := P.free 4 (by simp)
  have P_t := P.there
  have HM6 := Lib.hid hm6
  have hs6 := (TabS.TOwnL.mk O6 (Nat.le_refl _)).hs hm6 HBD.out
  clear hm6 O6
  go_wp2_with fail
  refine (TabS.eqT_any A6 A0 c6 c0 m6 m0 _ hs6 R0.all).mono ?_
  rintro e v11 ⟨rfl, hv11⟩
  clear P_0 P_1 P_2 P_3 P_4 P_f0 P_f1 P_f2 P_f3 P_f4 P_t
  replace P := P.more hv11
  replace R0 := TabS.tsl_keep R0 hv11
  replace OM := TabS.townl_keep OM hv11
  have zhv11 := hv11.size
  clear hv11
  have P_0 := P.cells 0 _ rfl
  have P_1 := P.cells 1 _ rfl
  have P_2 := P.cells 2 _ rfl
  have P_3 := P.cells 3 _ rfl
  have P_4 := P.cells 4 _ rfl
  have P_f0 := P.free 0 (by simp)
  have P_f1 := P.free 1 (by simp)
  have P_f2 := P.free 2 (by simp)
  have P_f3 := P.free 3 (by simp)
  have P_f4 := P.free 4 (by simp)
  have P_t := P.there
  rw [decide_eq_true (HM6.out.trans HM0.out.symm)]
  clear hs6
  have hrd := OM.own.hs (by rw [TabS.marksT_len]; have := hmr.1; omega) (fun x hx => by obtain ⟨y, hy, e⟩ := TabS.mark_bd 1 m2 x hx; have := hmr.2 y hy; omega)
  go_wp2_with fail
  refine (TabS.heldT_any A1 c1 _ m2 1 _ hrd.rd hrd.rows (by have := hmr.1; omega) (fun x hx => by have := hmr.2 x hx; omega) (by omega) (by omega)).mono ?_
  rintro e v12 ⟨rfl, hd⟩
  go_wp2
  go_ret
  exact ⟨rfl, be P.below (hd.below _)⟩
set_option maxHeartbeats 1600000 in
theorem mt_law (P : Option Addr) (cap : Nat) (l : List R) (w : World) (hr : Rd w w.heap.size P (flat l)) (hn : l.length ≤ maxLen) :
    Calls Try.prog 9 #[.slice P l.length cap] w (Yes w) := by
  have HN := Lib.hid hn
  unfold maxLen at hn
  by_cases hbig : 1048576 < l.length
  · have HS := Lib.hid (show STrip.szV 1048576 l.length = -1 by unfold STrip.szV; rw [if_pos (by omega)])
    go_enter Try.func9, Try.ntmps9
    go_wp2_with fail
    refine (STrip.szS_any P cap l.length 1048576 w (by omega) (by omega) HN.out).mono ?_
    rintro e _ ⟨rfl, rfl⟩
    rw [HS.out]
    go_wp2
    go_ret
    exact ⟨rfl, Below.refl _ _⟩
  · have HS := Lib.hid (show STrip.szV 1048576 l.length = 1048576 - l.length by unfold STrip.szV; rw [if_neg (by omega)])
    have HBD0 : TabS.Sm (mtF l) := mt_sm l
    obtain ⟨M, hM⟩ : ∃ M, mtF l = M := ⟨_, rfl⟩
    obtain ⟨q, hQ⟩ : ∃ q, good l = q := ⟨_, rfl⟩
    rw [hM] at HBD0
    have HBD := Lib.hid HBD0; clear HBD0
    have HSP := Lib.hid (fun P cap W (h1 : Rd W W.heap.size P (flat l)) => show Calls _ _ _ W (TabS.TPost M q W) by have h := mt_spec P cap l W h1 (by omega); rw [hM, hQ] at h; exact h)
    have HIM := Lib.hid (fun P cap W (h1 : Rd W W.heap.size P (flat l)) (h2 : l.length ≤ cap) => show Calls _ _ _ W (TabS.TPost M q W) by have h := mt_impl P cap l W h1 h2 (by omega); rw [hM, hQ] at h; exact h)
    clear hM hQ
    have hk1 : decide ((1 : Int) + l.length * 5 < 0) = false := decide_eq_false (by omega)
    go_enter Try.func9, Try.ntmps9
    go_wp2_with fail
    refine (STrip.szS_any P cap l.length 1048576 w (by omega) (by omega) HN.out).mono ?_
    rintro e _ ⟨rfl, rfl⟩
    rw [HS.out]
    go_wp2_with fail
    refine (STrip.toS_any P cap l w hr (by omega)).mono ?_
    rintro e v2 ⟨rfl, ho1, hb1⟩
    go_wp2_with fail
    refine (HSP.out _ _ _ (Rd.of_own ho1)).mono ?_
    rintro e v3 ⟨m0, A0, c0, hm0, rfl, O0, hb2⟩
    have HB := be hb1 hb2
    have R0 := TabS.TsL.mk (Nat.le_refl _) ((TabS.TOwnL.mk O0 (Nat.le_refl _)).hs hm0 HBD.out)
    have HM0 := Lib.hid hm0
    clear ho1 hb1 hb2 O0 hm0
    have hXB := HB.size
    go_wp2_with fail
    refine (STrip.toS_any P cap l _ ((hr.below HB (Nat.le_refl _)).mono HB.size) (by omega)).mono ?_
    rintro e v4 ⟨rfl, OX, hv4⟩
    replace HB := be HB hv4
    replace R0 := TabS.tsl_keep R0 hv4
    have zhv4 := hv4.size
    have HGW := Below.refl v4.heap.size v4
    have hXG := own_lt OX
    have hwG := HB.size
    go_wp2_with fail
    refine (HIM.out _ _ _ (Rd.of_own OX) (Nat.le_refl _)).mono ?_
    rintro e v5 ⟨m2, A1, c1, hm2, rfl, O10, hv5⟩
    replace HB := be HB hv5
    replace R0 := TabS.tsl_keep R0 hv5
    replace OX := own_keep OX hv5
    replace HGW := be HGW hv5
    have zhv5 := hv5.size
    have O1 := TabS.TOwnL.mk O10 (Nat.le_refl _)
    have HM2 := Lib.hid hm2
    clear O10 hm2
    have hGE : v4.heap.size ≤ v5.heap.size := HGW.size
    clear HGW
    go_wp2_with fail
    refine (TabS.eqT_any A1 A0 c1 c0 m2 m0 _ (O1.hs HM2.out HBD.out) R0.all).mono ?_
    rintro e v6 ⟨rfl, hv6⟩
    replace HB := be HB hv6
    replace R0 := TabS.tsl_keep R0 hv6
    replace OX := own_keep OX hv6
    replace O1 := TabS.townl_keep O1 hv6
    have zhv6 := hv6.size
    rw [decide_eq_true (HM2.out.trans HM0.out.symm)]
    go_wp2_with fail
    refine (STrip.toS_any P cap l _ ((hr.below HB (Nat.le_refl _)).mono HB.size) (by omega)).mono ?_
    rintro e v7 ⟨rfl, ho2, hv7⟩
    replace HB := be HB hv7
    replace R0 := TabS.tsl_keep R0 hv7
    replace OX := own_keep OX hv7
    replace O1 := TabS.townl_keep O1 hv7
    have zhv7 := hv7.size
    go_wp2_with fail
    refine (STrip.eqS_any _ _ _ _ l l _ (Rd.of_own OX) (Rd.of_own ho2) HN.out HN.out).mono ?_
    rintro e v8 ⟨rfl, hv8⟩
    replace HB := be HB hv8
    replace R0 := TabS.tsl_keep R0 hv8
    replace OX := own_keep OX hv8
    replace O1 := TabS.townl_keep O1 hv8
    have zhv8 := hv8.size
    rw [decide_eq_true rfl]
    clear ho2
    go_wp2_with fail
    refine (STrip.markS_any _ _ v3.heap.size l 1 _ OX (by omega) (by omega) (by omega)).mono ?_
    rintro e v9 ⟨rfl, om, hgw⟩
    have hg := Span.grown (lo := v3.heap.size) (hi := v4.heap.size) hgw (fun k hk => by have := row_at hk; omega)
    have hle := R0.le
    replace R0 := R0.span hg (Nat.le_refl _) R0.le
    replace O1 := O1.span hg (.inr (Nat.le_refl _))
    replace HB := bl_span HB hg hXB hle
    clear OX
    clear om hg hgw
    go_wp2_with fail
    refine (TabS.eqT_any A1 A0 c1 c0 m2 m0 _ (O1.hs HM2.out HBD.out) R0.all).mono ?_
    rintro e v10 ⟨rfl, hv10⟩
    replace HB := be HB hv10
    replace R0 := TabS.tsl_keep R0 hv10
    replace O1 := TabS.townl_keep O1 hv10
    have zhv10 := hv10.size
    rw [decide_eq_true (HM2.out.trans HM0.out.symm)]
    have hmt2 := TabS.sm_tot HM2.out HBD.out
    have hmr := TabS.sm_rows HM2.out HBD.out
    have hpos2 : decide ((1 : Int) + TabS.tot m2 < 0) = false := decide_eq_false (by omega)
    go_wp2_with fail
    refine (TabS.markT_any A1 c1 v4.heap.size v5.heap.size m2 1 _ O1.own (by have := hmr.1; omega) (fun x hx => by have := hmr.2 x hx; omega) (by omega) (by omega)).mono ?_
    rintro e v11 ⟨rfl, OM0, hg⟩
    replace R0 := R0.span hg (Nat.le_of_lt hXG) (Nat.le_trans hGE O1.le)
    have OM := TabS.TOwnL.mk OM0 (Nat.le_trans O1.le hg.size)
    replace HB := bl_span HB hg hwG (Nat.le_trans hGE O1.le)
    clear O1
    clear hg OM0
    have hrd := OM.own.hs (by rw [TabS.marksT_len]; have := hmr.1; omega) (fun x hx => by obtain ⟨y, hy, e⟩ := TabS.mark_bd 1 m2 x hx; have := hmr.2 y hy; omega)
    go_wp2_with fail
    refine (TabS.heldT_any A1 c1 _ m2 1 _ hrd.rd hrd.rows (by have := hmr.1; omega) (fun x hx => by have := hmr.2 x hx; omega) (by omega) (by omega)).mono ?_
    rintro e v12 ⟨rfl, hd⟩
    have hd2 := hd.below v11.heap.size; clear hd hrd
    replace HB := be HB hd2
    replace R0 := TabS.tsl_keep R0 hd2
    replace OM := TabS.townl_keep OM hd2
    go_wp2_with fail
    refine (STrip.toS_any P cap l _ ((hr.below HB (Nat.le_refl _)).mono HB.size) (by omega)).mono ?_
    rintro e v13 ⟨rfl, OY, hv13⟩
    replace HB := be HB hv13
    replace R0 := TabS.tsl_keep R0 hv13
    replace OM := TabS.townl_keep OM hv13
    have zhv13 := hv13.size
    go_wp2_with fail
    refine (HIM.out _ _ _ (Rd.of_own OY) (Nat.le_refl _)).mono ?_
    rintro e v14 ⟨m6, A6, c6, hm6, rfl, O6, hv14⟩
    replace HB := be HB hv14
    replace R0 := TabS.tsl_keep R0 hv14
    replace OM := TabS.townl_keep OM hv14
    have zhv14 := hv14.size
    have HM6 := Lib.hid hm6
    have hs6 := (TabS.TOwnL.mk O6 (Nat.le_refl _)).hs hm6 HBD.out
    clear OY hm6 O6
    go_wp2_with fail
    refine (TabS.eqT_any A6 A0 c6 c0 m6 m0 _ hs6 R0.all).mono ?_
    rintro e v15 ⟨rfl, hv15⟩
    replace HB := be HB hv15
    replace R0 := TabS.tsl_keep R0 hv15
    replace OM := TabS.townl_keep OM hv15
    have zhv15 := hv15.size
    rw [decide_eq_true (HM6.out.trans HM0.out.symm)]
    clear hs6
    have hrd := OM.own.hs (by rw [TabS.marksT_len]; have := hmr.1; omega) (fun x hx => by obtain ⟨y, hy, e⟩ := TabS.mark_bd 1 m2 x hx; have := hmr.2 y hy; omega)
    go_wp2_with fail
    refine (TabS.heldT_any A1 c1 _ m2 1 _ hrd.rd hrd.rows (by have := hmr.1; omega) (fun x hx => by have := hmr.2 x hx; omega) (by omega) (by omega)).mono ?_
    rintro e v16 ⟨rfl, hd⟩
    go_wp2
    go_ret
    exact ⟨rfl, be HB (hd.below _)⟩
end Go.Proofs.Ytphflbgljejokaa.Laws11b
