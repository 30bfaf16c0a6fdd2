/- FnWorkers, walked. -/
import Derived.Test.YtdikekecbapcaaaGLaw0
import Derived.Test.YtdikekecbapcaaaMGang
import Derived.Test.YtdikekecbapcaaaDWork3
import Derived.Test.YtdikekecbapcaaaLaws5a
import Derived.Test.YtdikekecbapcaaaDWork4
import Derived.Test.YtdikekecbapcaaaWorkZ
import Derived.Test.YtdikekecbapcaaaWorkX
import Derived.Deep.Cut
import Derived.Deep.CutBlock
import Derived.Deep.DeepCutAuto
namespace Go.Proofs.Ytdikekecbapcaaa.WorkerLaw
open Go.RowKit Go.Proofs.Ytdikekecbapcaaa.Mem Go.Proofs.Ytdikekecbapcaaa.Base Go.Proofs.Ytdikekecbapcaaa.SWorker Go.Proofs.Ytdikekecbapcaaa.Regn Go.Proofs.Ytdikekecbapcaaa.Boxes Go.Proofs.Ytdikekecbapcaaa.Keep Go.Proofs.Ytdikekecbapcaaa.SInt Go.Proofs.Ytdikekecbapcaaa.RInt Go.Proofs.Ytdikekecbapcaaa.Work Go.Proofs.Ytdikekecbapcaaa.Work2 Go.Proofs.Ytdikekecbapcaaa.WorkL Go.Proofs.Ytdikekecbapcaaa.WorkM Go.Proofs.Ytdikekecbapcaaa.WorkN Go.Proofs.Ytdikekecbapcaaa.WorkT Go.Proofs.Ytdikekecbapcaaa.DWork3 Go.Proofs.Ytdikekecbapcaaa.GLaw0 Go.Proofs.Ytdikekecbapcaaa.MGang Go.Proofs.Ytdikekecbapcaaa.Laws5a Go.Proofs.Ytdikekecbapcaaa.DWork4
set_option linter.unusedVariables false
set_option maxRecDepth 100000
theorem putL_len (l : List R) (id g : Int) : (putL l id g).length ≤ 100 := by
  unfold putL
  split
  · rename_i h
    have h0 : 0 ≤ find l id := by unfold putOk at h; simp only [Bool.and_eq_true, decide_eq_true_eq] at h; exact h.1.1
    obtain ⟨k, _, _, _, hg⟩ := find_ok h0
    have := (good_all hg).1
    rw [List.length_set]; omega
  · simp
theorem szL_len (l : List R) : (sizesL l).length ≤ 100 := by
  unfold sizesL
  split
  · rw [sizes_len]; omega
  · simp
set_option maxHeartbeats 6400000 in
theorem law (A : Option Addr) (cap : Nat) (zs : List Int) (w : World) (hr : Rd w w.heap.size A (zs.map (Value.int .u8))) (hn : zs.length ≤ maxLen) (hb : ∀ z ∈ zs, 0 ≤ z ∧ z ≤ 255) :
    Calls Try.prog 4 #[.slice A zs.length cap] w (Yes w) := by
  by_cases hbig : 65536 < zs.length
  · have HG := Lib.hid (show GLaw0.bigB zs.length = true from decide_eq_true hbig)
    clear hr hb
    go_enter Try.func4, Try.ntmps4
    go_wp2_with fail
    refine (vbig_any A cap zs.length w hn).mono ?_
    rintro e w' ⟨rfl, rfl⟩
    rw [HG.out]
    go_wp2
    go_ret
    exact ⟨rfl, Below.refl _ _⟩
  have HG := Lib.hid (show GLaw0.bigB zs.length = false from decide_eq_false hbig)
  have HN := Lib.hid hn; clear hn
  have HC := Lib.hid (show Draw.Src w A zs from ⟨hr, by omega, hb⟩); clear hr hb
  go_enter Try.func4, Try.ntmps4
  go_wp2_with fail
  refine (vbig_any A cap zs.length w HN.out).mono ?_
  rintro e w' ⟨rfl, rfl⟩
  rw [HG.out]
  clear HG hbig HN
  go_wp2_with fail
  refine (drawSpare A cap zs w HC.out).mono ?_
  rintro e va ⟨L, g, c, x, d, hl, rfl, O, HB⟩
  have hcp := own_cap O
  have HS1 := Lib.hid (fun P cap w hr hn => WorkW.spare_spec P cap L x d w hr hn)
  have HI1 := Lib.hid (fun P cap w hr hc hn => WorkZ.spare_impl P cap L x d w hr hc hn)
  have HST := Lib.hid (fun s (h : s ∈ spareL L x d) => spare_told h)
  have hI := WorkW.sp_len L x d
  generalize spareL L x d = I at *
  have HML := Lib.hid (show I.length ≤ maxLen by unfold maxLen; omega)
  generalize onOk L x d = q at *
  have hzs := HB.size
  go_wp2_with fail
  refine (HI1.out (some ⟨g, 0, none⟩) c _ (Rd.of_own O) hcp (by omega)).mono ?_
  rintro e v1 ⟨A1, c1, rfl, O1, hv1⟩
  replace HB := be HB hv1
  replace O := own_keep O hv1
  have zhv1 := hv1.size
  replace O1 := own_base O1 (base' := w.heap.size) hzs
  go_wp2_with fail
  refine (HS1.out (some ⟨g, 0, none⟩) c _ (Rd.of_own O) (by omega)).mono ?_
  rintro e v2 ⟨A2, c2, rfl, O2, hv2⟩
  replace HB := be HB hv2
  replace O := own_keep O hv2
  replace O1 := own_keep O1 hv2
  have zhv2 := hv2.size
  go_wp2_with fail
  refine (vints_any A1 A2 c1 c2 I I _ (Rd.of_own O1) (Rd.of_own O2) HML.out HML.out).mono ?_
  rintro e v3 ⟨rfl, hv3⟩
  replace HB := be HB hv3
  replace O := own_keep O hv3
  replace O1 := own_keep O1 hv3
  have zhv3 := hv3.size
  rw [decide_eq_true rfl]
  clear O2
  go_upto_block 0 with fail
  go_cut [] from 10 (fun wc => Below w.heap.size w wc)
  case first => as_aux_lemma =>
    go_wp2_with fail
    go_loopw [10] (fun i wr => ∃ (k : Nat), k ≤ I.length ∧ i = .int .i64 k ∧ wr.ownsRow w.heap.size 50 5 (.slice (some ⟨g, 0, none⟩) L.length c) L.length (flat L) ∧ wr.ownsRow w.heap.size 3 1 (.slice A1 I.length c1) I.length (iv I) ∧ Below w.heap.size w wr) (fun i _ => I.length - (intOf i).toNat)
    case atStart => exact ⟨0, by omega, rfl, O, O1, HB⟩
    case round =>
      clear O O1 HB hzs
      obtain ⟨k, hk, rfl, O, O1, HB⟩ := hrel
      by_cases hlt : k < I.length
      · obtain ⟨b1, rfl⟩ := WorkP.own_some O1 (by omega)
        obtain ⟨s, hs⟩ : ∃ s, I[k] = s := ⟨_, rfl⟩
        obtain ⟨hp, r, hr, hr1⟩ := HST.out s (by rw [← hs]; exact List.getElem_mem hlt)
        have hs2 : I[k]? = some s := by rw [List.getElem?_eq_getElem hlt, hs]
        have HSK := Lib.hid hs2; clear hs2 hs
        have HIP := Lib.hid (fun P cap w hr hc hn => WorkP.put_impl P cap L s 0 w hr hc hn)
        rw [hp] at HIP
        have hM := putL_len L s 0
        have HR := Lib.hid hr; clear hr hp
        generalize putL L s 0 = M at *
        have k1 : decide (r < 1) = false := decide_eq_false (by omega)
        have HLT := Lib.hid hlt
        have m0 := WorkK.row_get O1 HSK.out
        go_wp2_with fail
        refine (HIP.out (some ⟨g, 0, none⟩) c _ (Rd.of_own O) hcp (by omega)).mono ?_
        rintro e v1 ⟨A3, c3, rfl, O3, hv1⟩
        replace HB := be HB hv1
        replace O := own_keep O hv1
        replace O1 := own_keep O1 hv1
        have zhv1 := hv1.size
        clear m0
        go_wp2_with fail
        refine (on_impl A3 c3 M x d _ (Rd.of_own O3) (own_cap O3) (by omega)).mono ?_
        rintro e v2 ⟨rfl, hv2⟩
        replace HB := be HB hv2
        replace O := own_keep O hv2
        replace O1 := own_keep O1 hv2
        replace O3 := own_keep O3 hv2
        have zhv2 := hv2.size
        rw [HR.out]
        clear O3
        go_wp2
        go_roundw
        case rel => exact ⟨k + 1, HLT.out, by go_num, O, O1, HB⟩
        case measure => have := HLT.out; simp [intOf]; omega
      · obtain rfl : k = I.length := by omega
        go_wp2
        go_meet
        exact HB
  case rest =>
    clear O O1 HB hzs HI1 HS1 HST HML hI hcp hl
    have HB := hcut
    clear hcut
    have HB0 := Lib.hid HB.size
    go_wp2_with fail
    refine (drawSizes A cap zs _ (HC.out.below HB)).mono ?_
    rintro e v1 ⟨L2, g2, d2, hl2, rfl, P2, hv1⟩
    replace HB := be HB hv1
    have zhv1 := hv1.size
    replace P2 := own_base P2 (base' := w.heap.size) (by have := HB0.out; omega)
    obtain ⟨xe, qe, hve⟩ := WorkV.even_form L2
    have hte := even_told hve
    have HVE := Lib.hid hve; clear hve
    have HS2 := Lib.hid (fun P cap w hr hn => WorkU.sz_spec P cap L2 w hr hn)
    have HI2 := Lib.hid (fun P cap w hr hc hn => WorkU.sz_impl P cap L2 w hr hc hn)
    have HSM := Lib.hid (fun h : good L2 = true => And.intro ((congrArg List.sum (WorkU.sz_yes h)).trans (sizes_sum h)) (show ∀ x ∈ sizesL L2, 0 ≤ x ∧ x ≤ 10000 by rw [WorkU.sz_yes h]; exact sizes_bd h))
    have hS := szL_len L2
    generalize sizesL L2 = S at *
    generalize good L2 = q2 at *
    obtain ⟨rfl, hxe⟩ := hte
    have HMS := Lib.hid (show S.length ≤ maxLen by unfold maxLen; omega)
    have hzs := HB.size
    go_wp2_with fail
    refine (HI2.out (some ⟨g2, 0, none⟩) d2 _ (Rd.of_own P2) (own_cap P2) (by omega)).mono ?_
    rintro e v2 ⟨A3, c3, rfl, O3, hv2⟩
    replace HB := be HB hv2
    replace P2 := own_keep P2 hv2
    have zhv2 := hv2.size
    replace O3 := own_base O3 (base' := w.heap.size) hzs
    go_wp2_with fail
    refine (HS2.out (some ⟨g2, 0, none⟩) d2 _ (Rd.of_own P2) (by omega)).mono ?_
    rintro e v3 ⟨A4, c4, rfl, O4, hv3⟩
    replace HB := be HB hv3
    replace P2 := own_keep P2 hv3
    replace O3 := own_keep O3 hv3
    have zhv3 := hv3.size
    go_upto_region 18 with fail
    go_cut [128] from 35 (fun cnd wc => cnd = .bool false ∧ wc.ownsRow w.heap.size 50 5 (.slice (some ⟨g2, 0, none⟩) L2.length d2) L2.length (flat L2) ∧ Below w.heap.size w wc)
    case first => as_aux_lemma =>
      cases qe
      · go_wp2_with fail
        refine (vints_any A3 A4 c3 c4 S S _ (Rd.of_own O3) (Rd.of_own O4) HMS.out HMS.out).mono ?_
        rintro e v4 ⟨rfl, hv4⟩
        replace HB := be HB hv4
        replace P2 := own_keep P2 hv4
        replace O3 := own_keep O3 hv4
        replace O4 := own_keep O4 hv4
        have zhv4 := hv4.size
        rw [decide_eq_true rfl]
        go_wp2
        go_meet
        exact ⟨rfl, P2, HB⟩
      · obtain ⟨hsm, hsb⟩ := HSM.out rfl
        have HSM1 := Lib.hid hsm; have HSB := Lib.hid hsb; clear hsm hsb
        go_wp2_with fail
        refine (vints_any A3 A4 c3 c4 S S _ (Rd.of_own O3) (Rd.of_own O4) HMS.out HMS.out).mono ?_
        rintro e v5 ⟨rfl, hv5⟩
        replace HB := be HB hv5
        replace P2 := own_keep P2 hv5
        replace O3 := own_keep O3 hv5
        replace O4 := own_keep O4 hv5
        have zhv5 := hv5.size
        rw [decide_eq_true rfl]
        go_wp2_with fail
        refine (rsum_any A3 c3 S _ (Rd.of_own O3) (by omega) HSB.out).mono ?_
        rintro e v6 ⟨rfl, hv6⟩
        replace HB := be HB hv6
        replace P2 := own_keep P2 hv6
        replace O3 := own_keep O3 hv6
        replace O4 := own_keep O4 hv6
        have zhv6 := hv6.size
        rw [HSM1.out]
        go_wp2
        go_meet
        exact ⟨rfl, P2, HB⟩
    case rest =>
      clear P2 O3 O4 HB hzs HS2 HI2 HSM HMS hS
      obtain ⟨rfl, P2, HB⟩ := hcut
      have k2 : decide (xe < 0) = false := decide_eq_false (by omega)
      go_wp2_with fail
      refine (WorkX.even_impl (some ⟨g2, 0, none⟩) d2 L2 _ (Rd.of_own P2) (own_cap P2) (by omega)).mono ?_
      rintro e v1 ⟨rfl, hv1⟩
      replace HB := be HB hv1
      replace P2 := own_keep P2 hv1
      have zhv1 := hv1.size
      rw [HVE.out]
      go_wp2_with fail
      refine (WorkV.even_spec (some ⟨g2, 0, none⟩) d2 L2 _ (Rd.of_own P2) (by omega)).mono ?_
      rintro e v2 ⟨rfl, hv2⟩
      replace HB := be HB hv2
      replace P2 := own_keep P2 hv2
      have zhv2 := hv2.size
      rw [HVE.out]
      clear P2
      have hzs := HB.size
      go_wp2_with fail
      refine (drawPut A cap zs _ (HC.out.below HB)).mono ?_
      rintro e v3 ⟨L3, g3, d3, id, tg, hl3, rfl, P3, hv3⟩
      replace HB := be HB hv3
      have zhv3 := hv3.size
      replace P3 := own_base P3 (base' := w.heap.size) hzs
      have HS3 := Lib.hid (fun P cap w hr hn => WorkQ.put_spec P cap L3 id tg w hr hn)
      have HI3 := Lib.hid (fun P cap w hr hc hn => WorkP.put_impl P cap L3 id tg w hr hc hn)
      have HPB := Lib.hid (show putOk L3 id tg = true → ∀ i (h : i < L3.length), L3[i].f0 = id → putOk (putL L3 id tg) id L3[i].f1 = true ∧ putL (putL L3 id tg) id L3[i].f1 = L3 from fun h i hi he => put_back h hi he)
      have hM := putL_len L3 id tg
      generalize putL L3 id tg = M at *
      generalize putOk L3 id tg = q3 at *
      have HMM := Lib.hid (show M.length ≤ maxLen by unfold maxLen; omega)
      have hzs := HB.size
      go_wp2_with fail
      refine (HI3.out (some ⟨g3, 0, none⟩) d3 _ (Rd.of_own P3) (own_cap P3) (by omega)).mono ?_
      rintro e v4 ⟨A5, c5, rfl, O5, hv4⟩
      replace HB := be HB hv4
      replace P3 := own_keep P3 hv4
      have zhv4 := hv4.size
      replace O5 := own_base O5 (base' := w.heap.size) hzs
      go_wp2_with fail
      refine (HS3.out (some ⟨g3, 0, none⟩) d3 _ (Rd.of_own P3) (by omega)).mono ?_
      rintro e v5 ⟨A6, c6, rfl, O6, hv5⟩
      replace HB := be HB hv5
      replace P3 := own_keep P3 hv5
      replace O5 := own_keep O5 hv5
      have zhv5 := hv5.size
      go_wp2_with fail
      refine (rworkers_same A5 A6 c5 c6 M _ (Rd.of_own O5) (Rd.of_own O6) HMM.out).mono ?_
      rintro e v6 ⟨rfl, hv6⟩
      replace HB := be HB hv6
      replace P3 := own_keep P3 hv6
      replace O5 := own_keep O5 hv6
      have zhv6 := hv6.size
      clear O6
      go_upto_block 2 with fail
      go_cut [] from 31 (fun wc => wc.ownsRow w.heap.size 50 5 (.slice (some ⟨g3, 0, none⟩) L3.length d3) L3.length (flat L3) ∧ Below w.heap.size w wc)
      case first => as_aux_lemma =>
        go_wp2_with fail
        go_loopw [31] (fun i wr => ∃ (k : Nat), k ≤ L3.length ∧ i = .int .i64 k ∧ wr.ownsRow w.heap.size 50 5 (.slice (some ⟨g3, 0, none⟩) L3.length d3) L3.length (flat L3) ∧ wr.ownsRow w.heap.size 50 5 (.slice A5 M.length c5) M.length (flat M) ∧ Below w.heap.size w wr) (fun i _ => L3.length - (intOf i).toNat)
        case atStart => exact ⟨0, by omega, rfl, P3, O5, HB⟩
        case round =>
          clear P3 O5 HB hzs
          obtain ⟨k, hk, rfl, P3, O5, HB⟩ := hrel
          by_cases hlt : k < L3.length
          · cases q3
            · go_wp2
              go_meet
              exact ⟨P3, HB⟩
            · obtain ⟨x3, hx3⟩ : ∃ x, L3[k] = x := ⟨_, rfl⟩
              obtain ⟨h0, h1, h2, h3, h4⟩ := WorkP.own5 P3 hlt hx3
              have HLT := Lib.hid hlt
              cases he : (x3.f0 == id)
              · clear hx3
                go_wp2
                go_roundw
                case rel => exact ⟨k + 1, HLT.out, by go_num, P3, O5, HB⟩
                case measure => have := HLT.out; simp [intOf]; omega
              · have hb := HPB.out rfl k hlt (by rw [hx3]; exact eq_of_beq he)
                rw [hx3] at hb
                have HIB := Lib.hid (fun P cap w hr hc hn => WorkP.put_impl P cap M id x3.f1 w hr hc hn)
                rw [hb.1, hb.2] at HIB
                clear hb hx3 h2 h3 h4
                have HL3 := Lib.hid (show L3.length ≤ maxLen by unfold maxLen; omega)
                go_wp2_with fail
                refine (HIB.out A5 c5 _ (Rd.of_own O5) (own_cap O5) (by omega)).mono ?_
                rintro e v1 ⟨A7, c7, rfl, O7, hv1⟩
                replace HB := be HB hv1
                replace P3 := own_keep P3 hv1
                replace O5 := own_keep O5 hv1
                have zhv1 := hv1.size
                clear h0 h1
                go_wp2_with fail
                refine (rworkers_same A7 (some ⟨g3, 0, none⟩) c7 d3 L3 _ (Rd.of_own O7) (Rd.of_own P3) HL3.out).mono ?_
                rintro e v2 ⟨rfl, hv2⟩
                replace HB := be HB hv2
                replace P3 := own_keep P3 hv2
                replace O5 := own_keep O5 hv2
                have zhv2 := hv2.size
                clear O7
                go_wp2
                go_roundw
                case rel => exact ⟨k + 1, HLT.out, by go_num, P3, O5, HB⟩
                case measure => have := HLT.out; simp [intOf]; omega
          · obtain rfl : k = L3.length := by omega
            go_wp2
            go_meet
            exact ⟨P3, HB⟩
      case rest =>
        clear P3 O5 HB hzs HS3 HI3 HPB HMM hM
        obtain ⟨P3, HB⟩ := hcut
        go_wp2_with fail
        refine (drawIs A cap zs wc (HC.out.below HB)).mono ?_
        rintro e vz ⟨x9, rfl, hv9⟩
        replace HB := be HB hv9
        replace P3 := own_keep P3 hv9
        clear hv9
        go_upto_region 37 with fail
        have P9 := own_keep P3 (al (Below.refl _ _) (o := .cells #[.int .i64 x9.f0, .int .i64 x9.f1, .int .i64 x9.f2, .bool x9.f3, .int .i64 x9.f4] 50))
        have HB9 := al HB (o := .cells #[.int .i64 x9.f0, .int .i64 x9.f1, .int .i64 x9.f2, .bool x9.f3, .int .i64 x9.f4] 50)
        have BX := Box.new HB [.int .i64 x9.f0, .int .i64 x9.f1, .int .i64 x9.f2, .bool x9.f3, .int .i64 x9.f4] 50 (g := vz.heap.size) rfl
        dsimp only [List.toArray] at BX
        clear P3 HB
        generalize vz.alloc (.cells #[.int .i64 x9.f0, .int .i64 x9.f1, .int .i64 x9.f2, .bool x9.f3, .int .i64 x9.f4] 50) = W9 at BX P9 HB9 ⊢
        generalize vz.heap.size = z9 at BX ⊢
        obtain ⟨qa, ha⟩ : ∃ qa, okW x9 = qa := ⟨_, rfl⟩
        obtain ⟨qg, hgd⟩ : ∃ qg, good L3 = qg := ⟨_, rfl⟩
        have HA := Lib.hid ha; clear ha
        have HGD := Lib.hid hgd; clear hgd
        have hl9 : L3.length ≤ 1048576 := by omega
        have BX_0 := BX.cells 0 _ rfl
        have BX_1 := BX.cells 1 _ rfl
        have BX_2 := BX.cells 2 _ rfl
        have BX_3 := BX.cells 3 _ rfl
        have BX_4 := BX.cells 4 _ rfl
        have BX_f0 := BX.free 0 (by simp)
        have BX_f1 := BX.free 1 (by simp)
        have BX_f2 := BX.free 2 (by simp)
        have BX_f3 := BX.free 3 (by simp)
        have BX_f4 := BX.free 4 (by simp)
        have BX_t := BX.there
        cases qa
        all_goals cases qg
        all_goals
          refine wp_region_text (fun w' => Box (z9) [.int .i64 x9.f0, .int .i64 x9.f1, .int .i64 x9.f2, .bool x9.f3, .int .i64 x9.f4] w w' ∧ Below w.heap.size w w' ∧ w'.ownsRow (w.heap.size) 50 5 (.slice (some ⟨g3, 0, none⟩) L3.length d3) (L3.length) (flat L3)) (by kernel_rfl) (by kernel_rfl) ⟨BX.drew, be HB9 (Below.refl _ _).drew, own_keep P9 (Below.refl _ _).drew⟩ ?_
          clear BX_0 BX_1 BX_2 BX_3 BX_4 BX_f0 BX_f1 BX_f2 BX_f3 BX_f4 BX_t
          iterate 13 (
            apply SeqH.one
            · intro uw K hS hK
              obtain ⟨qBX, qHB9, qP9⟩ := hS
              have qBX_0 := qBX.cells 0 _ rfl
              have qBX_1 := qBX.cells 1 _ rfl
              have qBX_2 := qBX.cells 2 _ rfl
              have qBX_3 := qBX.cells 3 _ rfl
              have qBX_4 := qBX.cells 4 _ rfl
              first
                | (go_simp; exact hK.out _ ⟨qBX, qHB9, qP9⟩)
                | (go_simp; go_at_call 47; (with_reducible refine (WorkS.one_impl x9 _).mono ?_); rintro e uw1 ⟨rfl, hv⟩; rw [HA.out]; go_wp2_with fail; exact hK.out _ ⟨qBX.more hv, be qHB9 hv, own_keep qP9 hv⟩)
                | (go_simp; go_at_call 48; (with_reducible refine (WorkS.is_spec x9 _).mono ?_); rintro e uw1 ⟨rfl, hv⟩; rw [HA.out]; go_wp2_with fail; exact hK.out _ ⟨qBX.more hv, be qHB9 hv, own_keep qP9 hv⟩)
                | (go_simp; go_at_call 49; (with_reducible refine (WorkG.are_impl (some ⟨g3, 0, none⟩) d3 L3 _ (Rd.of_own qP9) hl9).mono ?_); rintro e uw1 ⟨rfl, hv⟩; rw [HGD.out]; go_wp2_with fail; exact hK.out _ ⟨qBX.more hv, be qHB9 hv, own_keep qP9 hv⟩)
                | (go_simp; go_at_call 50; (with_reducible refine (Laws5a.are_spec (some ⟨g3, 0, none⟩) d3 L3 _ (Rd.of_own qP9) hl9).mono ?_); rintro e uw1 ⟨rfl, hv⟩; rw [HGD.out]; go_wp2_with fail; exact hK.out _ ⟨qBX.more hv, be qHB9 hv, own_keep qP9 hv⟩)
            try simp only [Act.put, List.setIfInBounds_toArray, List.set_cons_zero, List.set_cons_succ])
          refine SeqH.end' rfl ?_
          intro v1 hS
          clear BX HB9 P9
          obtain ⟨BX, HB9, P9⟩ := hS
          have BX_0 := BX.cells 0 _ rfl
          have BX_1 := BX.cells 1 _ rfl
          have BX_2 := BX.cells 2 _ rfl
          have BX_3 := BX.cells 3 _ rfl
          have BX_4 := BX.cells 4 _ rfl
          have BX_f0 := BX.free 0 (by simp)
          have BX_f1 := BX.free 1 (by simp)
          have BX_f2 := BX.free 2 (by simp)
          have BX_f3 := BX.free 3 (by simp)
          have BX_f4 := BX.free 4 (by simp)
          have BX_t := BX.there
          go_wp2
          go_ret
          exact ⟨rfl, HB9⟩
end Go.Proofs.Ytdikekecbapcaaa.WorkerLaw
