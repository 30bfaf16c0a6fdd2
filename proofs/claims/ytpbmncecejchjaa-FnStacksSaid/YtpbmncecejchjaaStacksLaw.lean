/- FnStacks, walked. Made by tools/mk_stackslaw.py. -/
import Derived.Deep.Cut
import Derived.Deep.CutBlock
import Derived.Deep.CutRange
import Derived.Deep.DeepCutAuto
import Derived.Test.YtpbmncecejchjaaStackFacts
import Derived.Test.YtpbmncecejchjaaRHeaps
import Derived.Test.YtpbmncecejchjaaDHeaps2
import Derived.Test.YtpbmncecejchjaaCoverI
import Derived.Test.YtpbmncecejchjaaStackS
namespace Go.Proofs.Ytpbmncecejchjaa.StacksLaw
open Go.RowKit Go.Proofs.Ytpbmncecejchjaa.Mem Go.Proofs.Ytpbmncecejchjaa.Base Go.Proofs.Ytpbmncecejchjaa.SInt Go.Proofs.Ytpbmncecejchjaa.Nest Go.Proofs.Ytpbmncecejchjaa.HeapS Go.Proofs.Ytpbmncecejchjaa.HeapW Go.Proofs.Ytpbmncecejchjaa.Heap Go.Proofs.Ytpbmncecejchjaa.Heap2 Go.Proofs.Ytpbmncecejchjaa.Heap3 Go.Proofs.Ytpbmncecejchjaa.Boxes Go.Proofs.Ytpbmncecejchjaa.Keep Go.Proofs.Ytpbmncecejchjaa.StackFacts
open Go.Proofs.Ytpbmncecejchjaa.Cover (covH covOk cov_no cov_yes)
open Go.Proofs.Ytpbmncecejchjaa.Stack (stkF stkOk)
set_option linter.unusedVariables false
set_option linter.unusedSimpArgs false
set_option maxRecDepth 100000
def Yes (w : World) (e : Ending) (w' : World) : Prop := e = .returned (.bool true) ∧ Below w.heap.size w w'
theorem bne_b (q : Bool) : (q != q) = false := by cases q <;> rfl
theorem own_hs {w : World} {lo top : Nat} {A : Option Addr} {c : Nat} {m : List R} {F : List H} (ho : Own w lo top A c m) (hF : pl m = F) (hb : F = [] ∨ good F = true) : Hs w top A m := by
  rcases hb with h | h
  · have hm : m.length = 0 := by rw [← pl_len m, hF, h]; rfl
    obtain rfl := List.eq_nil_of_length_eq_zero hm
    exact Hs.nil
  · refine ho.hs (by rw [← pl_len m, hF]; have := good_len h; omega) (fun x hx => ?_)
    have hx2 : x.pure ∈ F := by rw [← hF]; exact List.mem_map.2 ⟨x, hx, rfl⟩
    have := okLs_len (okH_true (good_mem h _ hx2)).2.2.2.2
    have e : x.pure.ls.length = x.f2.ls.length := rfl
    omega
theorem rain_two (l : List H) (r : Int) : rainH l r = [] ∨ good (rainH l r) = true := by
  cases h : rainOk l r with
  | false => exact .inl (rain_no h).1
  | true => exact .inr (rain_good h).1
theorem cov_two (l : List H) (s : Int) : covH l s = [] ∨ good (covH l s) = true := by
  cases h : covOk l s with
  | false => exact .inl (cov_no h)
  | true =>
    rw [cov_yes h]
    have hg : good l = true := by unfold covOk at h; rw [Bool.and_eq_true] at h; exact h.1
    exact .inr (cov_good hg _)
theorem tab_ts {w : World} {lo top : Nat} {A : Option Addr} {c : Nat} {m : List Row} {L : List Int} (ho : TabS.TOwn w lo top A c m) (hF : TabS.tp m = stkF L) : TabS.Ts w top A m := by
  have hg := stack_gd L
  refine ho.hs (by rw [← TabS.tp_len m, hF]; omega) (fun x hx => ?_)
  have hx2 : x.ls ∈ stkF L := by rw [← hF]; exact List.mem_map.2 ⟨x, hx, rfl⟩
  have := okLs_len (hg.1 _ hx2).2
  omega
theorem row_sum {ls : List Int} (h : okLs ls = true) : 0 ≤ ls.sum ∧ ls.sum ≤ 6000 := by
  have h12 := okLs_len h
  have hm := okLs_mem h
  have key : ∀ (ls : List Int), (∀ y ∈ ls, 1 ≤ y ∧ y ≤ 500) → 0 ≤ ls.sum ∧ ls.sum ≤ 500 * ls.length := by
    intro ls
    induction ls with
    | nil => intro _; simp
    | cons a p ih =>
      intro h
      have h1 := ih (fun y hy => h y (List.mem_cons_of_mem _ hy))
      have h2 := h a (by simp)
      simp only [List.sum_cons, List.length_cons]
      omega
  have := key _ hm
  omega
theorem tp_next {m : List Row} {k : Nat} {x : Row} (hk : k < m.length) (hx : m[k] = x) : (((TabS.tp m).take (k + 1)).map List.sum).sum = (((TabS.tp m).take k).map List.sum).sum + x.ls.sum := by
  have hk2 : k < (TabS.tp m).length := by rw [TabS.tp_len]; exact hk
  rw [List.take_succ_eq_append_getElem hk2, List.map_append, List.sum_append, TabS.tp_get m k hk, hx]
  simp
theorem yes_i (k : Nat) (h : k < 4) : inB ((k : Int) + 1) 1 4 = true := inB_true ⟨by omega, by omega⟩
set_option maxHeartbeats 8000000 in
theorem law (A : Option Addr) (cap : Nat) (zs : List Int) (w : World) (hr : Rd w w.heap.size A (zs.map (Value.int .u8))) (hn : zs.length ≤ maxLen) (hb : ∀ z ∈ zs, 0 ≤ z ∧ z ≤ 255) :
    Calls Try.prog 14 #[.slice A zs.length cap] w (Yes w) := by
  by_cases hbig : 65536 < zs.length
  · have HG := Lib.hid (show Draw.bigB zs.length = true from decide_eq_true hbig)
    clear hr hb
    go_enter Try.func14, Try.ntmps14
    go_wp2_with fail
    refine (RLaw.rbig_any A cap zs.length w hn).mono ?_
    rintro e w' ⟨rfl, rfl⟩
    rw [HG.out]
    go_wp2
    go_ret
    exact ⟨rfl, Below.refl _ _⟩
  have HG := Lib.hid (show Draw.bigB zs.length = false from decide_eq_false hbig)
  have HN := Lib.hid hn; clear hn
  have HC := Lib.hid (show Draw.Src w A zs from ⟨hr, by omega, hb⟩); clear hr hb
  go_enter Try.func14, Try.ntmps14
  go_wp2_with fail
  refine (RLaw.rbig_any A cap zs.length w HN.out).mono ?_
  rintro e w0 ⟨rfl, rfl⟩
  rw [HG.out]
  clear HG hbig HN
  go_wp2_with fail
  refine (DHeaps2.drawRain A cap zs w HC.out).mono ?_
  rintro e w1 ⟨l, g, c, r, hl, rfl, hs, hv⟩
  have HB := Lib.hid hv; have HS := Lib.hid hs; clear hv hs
  obtain ⟨q, hq⟩ : ∃ q, rainOk (pl l) r = q := ⟨_, rfl⟩
  obtain ⟨z, hz⟩ : ∃ z, rainI (pl l) r = z := ⟨_, rfl⟩
  have HQ := Lib.hid hq; have HZ := Lib.hid hz; clear hq hz
  go_wp2_with fail
  refine (HeapN.rain_impl (some ⟨g, 0, none⟩) c l r w1 HS.out).mono ?_
  rintro e w2 ⟨m, A2, c2, hm, rfl, O2, hv⟩
  rw [HZ.out, HQ.out]
  replace HB := Lib.hid (be HB.out hv); replace HS := Lib.hid (HS.out.keep hv); clear hv
  have HM := Lib.hid (own_hs O2 hm (rain_two _ _)); have HMP := Lib.hid hm; clear O2 hm
  go_wp2_with fail
  refine (HeapN.rain_spec (some ⟨g, 0, none⟩) c l r w2 HS.out).mono ?_
  rintro e w3 ⟨n, A3, c3, hn, rfl, O3, hv⟩
  rw [HZ.out, HQ.out]
  replace HB := Lib.hid (be HB.out hv); replace HS := Lib.hid (HS.out.keep hv); replace HM := Lib.hid (HM.out.keep hv); clear hv
  have HN := Lib.hid (own_hs O3 hn (rain_two _ _)); have HNP := Lib.hid hn; clear O3 hn
  have b0 := bne_b q
  have b1 : (z != z) = false := by simp
  go_wp2_with fail
  refine (RHeaps.rheaps_same A2 A3 c2 c3 m n w3 HM.out HN.out (HMP.out.trans HNP.out.symm)).mono ?_
  rintro e w4 ⟨rfl, hv⟩
  replace HB := Lib.hid (be HB.out hv); replace HS := Lib.hid (HS.out.keep hv); replace HM := Lib.hid (HM.out.keep hv); clear hv
  clear HN HNP b0
  go_upto_block 0 with fail
  go_cut [11] from 12 (fun sv wc => sv = .int .i64 z ∧ Hid (Below w.heap.size w wc))
  case first => as_aux_lemma =>
    cases q
    · have hz0 : z = 0 := by rw [← HZ.out]; exact (rain_no HQ.out).2
      have HZ0 := Lib.hid hz0; clear hz0
      go_wp2_with fail
      go_loopw [11, 12] (fun sv gv wr => sv = .int .i64 0 ∧ gv = .int .i64 1 ∧ Hid (Below w.heap.size w wr)) (fun _ _ _ => 0)
      case atStart => exact ⟨rfl, rfl, HB⟩
      case round =>
        clear HB HS HM
        obtain ⟨rfl, rfl, HB⟩ := hrel
        go_wp2_with fail
        go_meet
        case rel => exact ⟨by rw [HZ0.out] <;> rfl, HB⟩
    · have hgl := Lib.hid (rain_good HQ.out).2
      have hgm := Lib.hid (show good (pl m) = true by rw [HMP.out]; exact (rain_good HQ.out).1)
      have HF := Lib.hid (show accT (pl l) (pl m) 4 = z by rw [acc_four, HMP.out, rain_lost HQ.out, HZ.out])
      go_wp2_with fail
      go_loopw [11, 12] (fun sv gv wr => ∃ (k : Nat) (s : Int), k ≤ 4 ∧ gv = .int .i64 ((k : Int) + 1) ∧ sv = .int .i64 s ∧ Hid (accT (pl l) (pl m) k = s) ∧ Hid (Hs wr wr.heap.size (some ⟨g, 0, none⟩) l) ∧ Hid (Hs wr wr.heap.size A2 m) ∧ Hid (Below w.heap.size w wr)) (fun _ gv _ => 10 - (intOf gv).toNat)
      case atStart => exact ⟨0, 0, by omega, rfl, rfl, Lib.hid rfl, HS, HM, HB⟩
      case round =>
        clear HS HM HB
        obtain ⟨k, s, hk, rfl, rfl, HK, HS, HM, HB⟩ := hrel
        by_cases hlt : k < 4
        · have d1 : decide ((k : Int) + 1 ≤ 4) = true := decide_eq_true (by omega)
          have HLT := Lib.hid hlt
          have hT1 := tonsV_yes hgl.out (yes_i k hlt)
          have hT2 := tonsV_yes hgm.out (yes_i k hlt)
          have hb1 := tons_bd (l := pl l) ((k : Int) + 1) hgl.out
          have hb2 := tons_bd (l := pl m) ((k : Int) + 1) hgm.out
          have hb3 := acc_bd hgl.out hgm.out k
          rw [HK.out] at hb3
          have hN : accT (pl l) (pl m) (k + 1) = s + tonsL (pl l) ((k : Int) + 1) - tonsL (pl m) ((k : Int) + 1) := by rw [← HK.out]; rfl
          obtain ⟨a, ha⟩ : ∃ a, tonsL (pl l) ((k : Int) + 1) = a := ⟨_, rfl⟩
          obtain ⟨b, hb⟩ : ∃ b, tonsL (pl m) ((k : Int) + 1) = b := ⟨_, rfl⟩
          rw [ha] at hb1 hT1 hN
          rw [hb] at hb2 hT2 hN
          have HT1 := Lib.hid hT1; have HT2 := Lib.hid hT2; have HNX := Lib.hid hN
          clear ha hb hT1 hT2 hN
          have e1 : IntKind.i64.wrap (s + a) = s + a := IntWalk.i64_in _ (by omega)
          have e2 : IntKind.i64.wrap (s + a - b) = s + a - b := IntWalk.i64_in _ (by omega)
          have e3 : IntKind.i64.wrap ((k : Int) + 1 + 1) = (k : Int) + 1 + 1 := IntWalk.i64_in _ (by omega)
          clear hb1 hb2 hb3
          go_wp2_with fail
          refine (HeapT.tonsOf_impl (some ⟨g, 0, none⟩) c l ((k : Int) + 1) wr HS.out).mono ?_
          rintro e v1 ⟨rfl, hv⟩
          rw [HT1.out]
          replace HB := Lib.hid (be HB.out hv); replace HS := Lib.hid (HS.out.keep hv); replace HM := Lib.hid (HM.out.keep hv); clear hv
          go_wp2_with fail
          refine (HeapT.tonsOf_impl A2 c2 m ((k : Int) + 1) v1 HM.out).mono ?_
          rintro e v2 ⟨rfl, hv⟩
          rw [HT2.out]
          replace HB := Lib.hid (be HB.out hv); replace HS := Lib.hid (HS.out.keep hv); replace HM := Lib.hid (HM.out.keep hv); clear hv
          go_wp2
          go_roundw
          case rel => exact ⟨k + 1, s + a - b, HLT.out, by first | rfl | simp, rfl, HNX, HS, HM, HB⟩
          case measure => simp [intOf]; omega
        · have d1 : decide ((k : Int) + 1 ≤ 4) = false := decide_eq_false (by omega)
          have HSZ := Lib.hid (show s = z by rw [← HK.out, show k = 4 by omega]; exact HF.out)
          go_wp2_with fail
          go_meet
          case rel => exact ⟨by rw [HSZ.out] <;> rfl, HB⟩
  case rest => as_aux_lemma =>
    clear HB HS HM HMP HQ HZ
    obtain ⟨rfl, HB⟩ := hcut
    go_wp2_with fail
    refine (DHeaps2.drawCover A cap zs wc (HC.out.below HB.out)).mono ?_
    rintro e w1 ⟨l, g, c, s, hl, rfl, hs, hv⟩
    have HS := Lib.hid hs; clear hs
    replace HB := Lib.hid (be HB.out hv); clear hv
    obtain ⟨q, hq⟩ : ∃ q, covOk (pl l) s = q := ⟨_, rfl⟩
    have HQ := Lib.hid hq; clear hq
    go_wp2_with fail
    refine (CoverI.cover_impl (some ⟨g, 0, none⟩) c l s w1 HS.out).mono ?_
    rintro e w2 ⟨m, A2, c2, hm, rfl, O2, hv⟩
    rw [HQ.out]
    replace HB := Lib.hid (be HB.out hv); replace HS := Lib.hid (HS.out.keep hv); clear hv
    have HM := Lib.hid (own_hs O2 hm (cov_two _ _)); have HMP := Lib.hid hm; clear O2 hm
    go_wp2_with fail
    refine (Cover.cover_spec (some ⟨g, 0, none⟩) c l s w2 HS.out).mono ?_
    rintro e w3 ⟨n, A3, c3, hn, rfl, O3, hv⟩
    rw [HQ.out]
    replace HB := Lib.hid (be HB.out hv); replace HS := Lib.hid (HS.out.keep hv); replace HM := Lib.hid (HM.out.keep hv); clear hv
    have HN := Lib.hid (own_hs O3 hn (cov_two _ _)); have HNP := Lib.hid hn; clear O3 hn
    have b0 := bne_b q
    go_wp2_with fail
    refine (RHeaps.rheaps_same A2 A3 c2 c3 m n w3 HM.out HN.out (HMP.out.trans HNP.out.symm)).mono ?_
    rintro e w4 ⟨rfl, hv⟩
    replace HB := Lib.hid (be HB.out hv); replace HS := Lib.hid (HS.out.keep hv); clear hv
    clear HM HN HMP HNP b0
    go_wp2_with fail
    refine (CoverI.cover_impl (some ⟨g, 0, none⟩) c l 20 w4 HS.out).mono ?_
    rintro e w5 ⟨m4, A4, c4, hm4, rfl, O4, hv⟩
    obtain ⟨q3, hq3⟩ : ∃ q3, covOk (pl l) 20 = q3 := ⟨_, rfl⟩
    rw [hq3]
    have HQ3 := Lib.hid hq3; clear hq3
    replace HB := Lib.hid (be HB.out hv); replace HS := Lib.hid (HS.out.keep hv); clear hv
    have HM := Lib.hid (own_hs O4 hm4 (cov_two _ _)); have HMP := Lib.hid hm4; clear O4 hm4
    go_upto_if 138 with fail
    go_cut [] from 23 (fun wc => Hid (Hs wc wc.heap.size (some ⟨g, 0, none⟩) l) ∧ Hid (Below w.heap.size w wc))
    case first => as_aux_lemma =>
      cases q
      · go_wp2
        go_meet
        case rel => exact ⟨HS, HB⟩
      have hc := cov_20 (show good (pl l) = true by have := HQ.out; unfold covOk at this; rw [Bool.and_eq_true] at this; exact this.1)
      obtain rfl : q3 = true := by rw [← HQ3.out]; exact hc.1
      have HR1 := Lib.hid (show rainOk (pl m4) 300 = true by rw [HMP.out]; exact hc.2.1)
      have HR2 := Lib.hid (show rainI (pl m4) 300 = 0 by rw [HMP.out]; exact hc.2.2.2)
      have HR3 := Lib.hid (show rainH (pl m4) 300 = pl m4 by rw [HMP.out]; exact hc.2.2.1)
      clear hc
      go_wp2_with fail
      refine (HeapN.rain_impl A4 c4 m4 300 w5 HM.out).mono ?_
      rintro e w6 ⟨m5, A5, c5, hm5, rfl, O5, hv⟩
      rw [HR1.out, HR2.out]
      replace HB := Lib.hid (be HB.out hv); replace HS := Lib.hid (HS.out.keep hv); replace HM := Lib.hid (HM.out.keep hv); clear hv
      have HM5 := Lib.hid (own_hs O5 hm5 (rain_two _ _)); have HMP5 := Lib.hid (hm5.trans HR3.out); clear O5 hm5
      go_wp2_with fail
      refine (RHeaps.rheaps_same A5 A4 c5 c4 m5 m4 w6 HM5.out HM.out HMP5.out).mono ?_
      rintro e w7 ⟨rfl, hv⟩
      replace HB := Lib.hid (be HB.out hv); replace HS := Lib.hid (HS.out.keep hv); clear hv
      go_wp2
      go_meet
      case rel => exact ⟨HS, HB⟩
    case rest => as_aux_lemma =>
      clear HB HS HM HMP HQ HQ3
      obtain ⟨HS, HB⟩ := hcut
      go_wp2_with fail
      refine (DStack.drawStack A cap zs wc (HC.out.below HB.out)).mono ?_
      rintro e w1 ⟨L, g3, c3, hL, hbd, rfl, O, hv⟩
      have HT := Lib.hid (Rd.of_own O); clear O
      have HBD := Lib.hid hbd; clear hbd
      have HLL := Lib.hid hL
      replace HB := Lib.hid (be HB.out hv); replace HS := Lib.hid (HS.out.keep hv); clear hv
      obtain ⟨hi0, hi1, hhi⟩ := HeapY.hiV_form (pl l)
      have HHI := Lib.hid hhi; clear hhi
      obtain ⟨q, hq⟩ : ∃ q, stkOk L = q := ⟨_, rfl⟩
      have HQ := Lib.hid hq; clear hq
      go_wp2_with fail
      refine (Stack.stack_impl (some ⟨g3, 0, none⟩) c3 L w1 HT.out (by have := HLL.out; omega)).mono ?_
      rintro e w2 ⟨m, A2, c2, hm, rfl, O2, hv⟩
      rw [HQ.out]
      replace HT := Lib.hid (rd_keep HT.out hv)
      replace HB := Lib.hid (be HB.out hv); replace HS := Lib.hid (HS.out.keep hv); clear hv
      have HM := Lib.hid (tab_ts O2 hm); have HMP := Lib.hid hm; clear O2 hm
      go_wp2_with fail
      refine (StackS.stack_spec (some ⟨g3, 0, none⟩) c3 L w2 HT.out (by have := HLL.out; omega)).mono ?_
      rintro e w3 ⟨n, A3, c4, hn, rfl, O3, hv⟩
      rw [HQ.out]
      replace HT := Lib.hid (rd_keep HT.out hv)
      replace HB := Lib.hid (be HB.out hv); replace HS := Lib.hid (HS.out.keep hv); replace HM := Lib.hid (HM.out.keep hv); clear hv
      have HN := Lib.hid (tab_ts O3 hn); have HNP := Lib.hid hn; clear O3 hn
      have b0 := bne_b q
      go_wp2_with fail
      refine (RHeaps.rtab_same A2 A3 c2 c4 m n w3 HM.out HN.out (HMP.out.trans HNP.out.symm)).mono ?_
      rintro e w4 ⟨rfl, hv⟩
      replace HT := Lib.hid (rd_keep HT.out hv)
      replace HB := Lib.hid (be HB.out hv); replace HS := Lib.hid (HS.out.keep hv); replace HM := Lib.hid (HM.out.keep hv); clear hv
      clear HN HNP b0 hL
      have hml : m.length ≤ 20 := by rw [← TabS.tp_len m, HMP.out]; exact (stack_gd L).2
      have HROW := Lib.hid (show ∀ x ∈ m, okLs x.ls = true ∧ okH ⟨1, 1, x.ls, false⟩ = true from fun x hx => by
        have h9 : x.ls ∈ stkF L := by rw [← HMP.out]; exact List.mem_map.2 ⟨x, hx, rfl⟩
        exact ⟨((stack_gd L).1 _ h9).2, stack_is _ h9⟩)
      have HTOT := Lib.hid (show q = true → (((TabS.tp m).map List.sum).sum = L.sum) from fun h => by rw [HMP.out]; exact stack_tot (HQ.out.trans h))
      go_wp2_with fail
      go_loopw [33, 34] (fun sv jv wr => ∃ (k : Nat) (s : Int), k ≤ m.length ∧ jv = .int .i64 k ∧ sv = .int .i64 s ∧ Hid ((((TabS.tp m).take k).map List.sum).sum = s) ∧ 0 ≤ s ∧ s ≤ 6000 * k ∧ Hid (TabS.Ts wr wr.heap.size A2 m) ∧ Hid (Rd wr wr.heap.size (some ⟨g3, 0, none⟩) (iv L)) ∧ Hid (Hs wr wr.heap.size (some ⟨g, 0, none⟩) l) ∧ Hid (Below w.heap.size w wr)) (fun _ jv _ => m.length - (intOf jv).toNat)
      case atStart => exact ⟨0, 0, Nat.zero_le _, rfl, rfl, Lib.hid rfl, by omega, by omega, HM, HT, HS, HB⟩
      case round =>
        clear HM HT HS HB
        obtain ⟨k, s, hk, rfl, rfl, HK, s0, s1, HM, HT, HS, HB⟩ := hrel
        by_cases hlt : k < m.length
        · have HLT := Lib.hid hlt
          obtain ⟨x, hx⟩ : ∃ x, m[k] = x := ⟨_, rfl⟩
          have hrw := HROW.out x (by rw [← hx]; exact List.getElem_mem hlt)
          have hsum := row_sum hrw.1
          have hNX : (((TabS.tp m).take (k + 1)).map List.sum).sum = s + x.ls.sum := by rw [tp_next hlt hx, HK.out]
          obtain ⟨b, o, rfl, hb, h0⟩ := HM.out.at hlt hx
          have hrow := HM.out.row hlt hx
          have HOK := Lib.hid hrw.2
          have HEL := Lib.hid (okLs_mem hrw.1)
          have HRW := Lib.hid hrow
          clear hrow hrw hx hb
          obtain ⟨t, ht⟩ : ∃ t, x.ls.sum = t := ⟨_, rfl⟩
          rw [ht] at hsum hNX
          have HTS := Lib.hid ht; have HNX := Lib.hid hNX; clear ht hNX
          obtain ⟨A1, c1, ls⟩ := x
          dsimp only at h0 HOK HEL HRW HTS
          have e1 : IntKind.i64.wrap (s + t) = s + t := IntWalk.i64_in _ (by omega)
          have e2 : IntKind.i64.wrap ((k : Int) + 1) = k + 1 := IntWalk.i64_in _ (by omega)
          go_wp2_with fail
          refine (RLaw.rsum_any A1 c1 ls wr HRW.out.1 HRW.out.2 (fun y hy => by have := HEL.out y hy; omega)).mono ?_
          rintro e v1 ⟨rfl, hd⟩
          rw [HTS.out]
          have hv := hd.below wr.heap.size
          have h1 := (hd.cell _ _).trans h0
          clear h0 hd
          replace HRW := Lib.hid (And.intro (rd_keep HRW.out.1 hv) HRW.out.2)
          replace HT := Lib.hid (rd_keep HT.out hv)
          replace HB := Lib.hid (be HB.out hv); replace HS := Lib.hid (HS.out.keep hv); replace HM := Lib.hid (HM.out.keep hv); clear hv
          go_wp2_with fail
          refine (HeapG.one_impl ⟨1, 1, ⟨A1, c1, ls⟩, false⟩ v1 HRW.out.1 HRW.out.2).mono ?_
          rintro e v2 ⟨rfl, hv⟩
          rw [show okH (HeapS.R.pure ⟨1, 1, ⟨A1, c1, ls⟩, false⟩) = true from HOK.out]
          replace HT := Lib.hid (rd_keep HT.out hv)
          replace HB := Lib.hid (be HB.out hv); replace HS := Lib.hid (HS.out.keep hv); replace HM := Lib.hid (HM.out.keep hv); clear hv
          go_wp2
          go_roundw
          case rel => exact ⟨k + 1, s + t, HLT.out, by go_num, rfl, HNX, by omega, by omega, HM, HT, HS, HB⟩
          case measure => have := HLT.out; simp [intOf]; omega
        · have hke : k = m.length := by omega
          have hS2 : ((TabS.tp m).map List.sum).sum = s := by rw [← HK.out, List.take_of_length_le (by rw [TabS.tp_len]; omega)]
          have HTQ := Lib.hid (fun h => hS2.symm.trans (HTOT.out h)); clear hS2
          clear hke hk
          cases q
          · go_wp2_with fail
            refine (HeapY.hi_impl (some ⟨g, 0, none⟩) c l wr HS.out).mono ?_
            rintro e v3 ⟨rfl, hv⟩
            rw [HHI.out]
            replace HB := Lib.hid (be HB.out hv); replace HS := Lib.hid (HS.out.keep hv); clear hv
            go_wp2_with fail
            refine (HeapY.hi_spec (some ⟨g, 0, none⟩) c l v3 HS.out).mono ?_
            rintro e v4 ⟨rfl, hv⟩
            rw [HHI.out]
            replace HB := Lib.hid (be HB.out hv); replace HS := Lib.hid (HS.out.keep hv); clear hv
            have y0 : (hi0 == hi0) = true := by simp
            have y1 : (hi1 == hi1) = true := by simp
            go_wp2
            go_ret
            exact ⟨rfl, HB.out⟩
          · have hse : s = L.sum := HTQ.out rfl
            obtain ⟨t, ht⟩ : ∃ t, L.sum = t := ⟨_, rfl⟩
            have HTS := Lib.hid ht
            rw [ht] at hse
            subst hse
            clear ht
            have b9 : (s != s) = false := by simp
            go_wp2_with fail
            refine (RLaw.rsum_any (some ⟨g3, 0, none⟩) c3 L wr HT.out (by have := HLL.out; omega) (fun y hy => by have := HBD.out y hy; omega)).mono ?_
            rintro e v1 ⟨rfl, hd⟩
            rw [HTS.out]
            have hv := hd.below wr.heap.size
            replace HB := Lib.hid (be HB.out hv); replace HS := Lib.hid (HS.out.keep hv); clear hv
            go_wp2_with fail
            refine (HeapY.hi_impl (some ⟨g, 0, none⟩) c l v1 HS.out).mono ?_
            rintro e v3 ⟨rfl, hv⟩
            rw [HHI.out]
            replace HB := Lib.hid (be HB.out hv); replace HS := Lib.hid (HS.out.keep hv); clear hv
            go_wp2_with fail
            refine (HeapY.hi_spec (some ⟨g, 0, none⟩) c l v3 HS.out).mono ?_
            rintro e v4 ⟨rfl, hv⟩
            rw [HHI.out]
            replace HB := Lib.hid (be HB.out hv); replace HS := Lib.hid (HS.out.keep hv); clear hv
            have y0 : (hi0 == hi0) = true := by simp
            have y1 : (hi1 == hi1) = true := by simp
            go_wp2
            go_ret
            exact ⟨rfl, HB.out⟩
end Go.Proofs.Ytpbmncecejchjaa.StacksLaw
