/- FnChains, walked. -/
import Derived.Test.YtncdkfkihfhcgaaCLaw0
import Derived.Test.YtncdkfkihfhcgaaCDraw
import Derived.Test.YtncdkfkihfhcgaaMChain
import Derived.Test.YtncdkfkihfhcgaaJPond3
import Derived.Deep.Cut
import Derived.Deep.CutBlock
import Derived.Deep.DeepCutAuto
namespace Go.Proofs.Ytncdkfkihfhcgaa.ChainLaw
open Go.RowKit Go.Proofs.Ytncdkfkihfhcgaa.Mem Go.Proofs.Ytncdkfkihfhcgaa.Base Go.Proofs.Ytncdkfkihfhcgaa.SPond Go.Proofs.Ytncdkfkihfhcgaa.Regn Go.Proofs.Ytncdkfkihfhcgaa.Boxes Go.Proofs.Ytncdkfkihfhcgaa.Keep Go.Proofs.Ytncdkfkihfhcgaa.SInt Go.Proofs.Ytncdkfkihfhcgaa.Pond2 Go.Proofs.Ytncdkfkihfhcgaa.Pond3 Go.Proofs.Ytncdkfkihfhcgaa.Pond4 Go.Proofs.Ytncdkfkihfhcgaa.Pond7 Go.Proofs.Ytncdkfkihfhcgaa.Pond9 Go.Proofs.Ytncdkfkihfhcgaa.Chain Go.Proofs.Ytncdkfkihfhcgaa.JPond Go.Proofs.Ytncdkfkihfhcgaa.Cut Go.Proofs.Ytncdkfkihfhcgaa.CLaw0 Go.Proofs.Ytncdkfkihfhcgaa.CDraw Go.Proofs.Ytncdkfkihfhcgaa.MChain Go.Proofs.Ytncdkfkihfhcgaa.Laws3
set_option linter.unusedVariables false
set_option maxRecDepth 100000
theorem row_get {w : World} {base g n c : Nat} {S : List Int} {k : Nat} {v : Int} (O : w.ownsRow base 3 1 (.slice (some ⟨g, 0, none⟩) n c) n (iv S)) (hv : S[k]? = some v) : w.cell? ⟨g, k, none⟩ = some (.int .i64 v) := by
  have hk : k < S.length := (List.getElem?_eq_some_iff.1 hv).1
  have hx : S[k] = v := (List.getElem?_eq_some_iff.1 hv).2
  rw [O.cellAt k (by have := O.1; rw [iv_len] at this; omega), iv_get S k hk, hx]
theorem joinL_len (l : List R) (a b : Int) : (joinL l a b).length ≤ 100 := by
  unfold joinL
  split
  · rename_i h
    have h2 : good (joinRow l (ji l a) (ji l b) (jp l a b)) = true := by unfold joinOk at h; rw [Bool.and_eq_true] at h; exact h.2
    have := (good_all h2).1
    omega
  · simp
theorem cutL_len (l : List R) (a b : Int) : (cutL l a b).length ≤ 100 := by
  unfold cutL
  split
  · rename_i h
    have h2 : good (cutRow l (find l a).toNat (at_ l (find l a)) b) = true := by unfold cutOk at h; rw [Bool.and_eq_true] at h; exact h.2
    have := (good_all h2).1
    omega
  · simp
set_option maxHeartbeats 6400000 in
theorem law (A : Option Addr) (cap : Nat) (zs : List Int) (w : World) (hr : Rd w w.heap.size A (zs.map (Value.int .u8))) (hn : zs.length ≤ maxLen) (hb : ∀ z ∈ zs, 0 ≤ z ∧ z ≤ 255) :
    Calls Try.prog 3 #[.slice A zs.length cap] w (Yes w) := by
  by_cases hbig : 65536 < zs.length
  · have HG := Lib.hid (show CLaw0.bigB zs.length = true from decide_eq_true hbig)
    clear hr hb
    go_enter Try.func3, Try.ntmps3
    go_wp2_with fail
    refine (vbig_any A cap zs.length w hn).mono ?_
    rintro e w' ⟨rfl, rfl⟩
    rw [HG.out]
    go_wp2
    go_ret
    exact ⟨rfl, Below.refl _ _⟩
  have HG := Lib.hid (show CLaw0.bigB zs.length = false from decide_eq_false hbig)
  have HN := Lib.hid hn; clear hn
  have HC := Lib.hid (show Draw.Src w A zs from ⟨hr, by omega, hb⟩); clear hr hb
  go_enter Try.func3, Try.ntmps3
  go_wp2_with fail
  refine (vbig_any A cap zs.length w HN.out).mono ?_
  rintro e w' ⟨rfl, rfl⟩
  rw [HG.out]
  clear HG hbig HN
  go_wp2_with fail
  refine (drawChain A cap zs w HC.out).mono ?_
  rintro e va ⟨L, g, c, a, b, hl, _, _, _, rfl, O, HB⟩
  have hcp := own_cap O
  obtain ⟨I, q, hch⟩ := is_chain L a b
  obtain ⟨I2, q2, hch2⟩ := is_chain L b a
  have HI1 := Lib.hid (fun P cap w hr hc hn => ImplChain.chain_impl P cap L a b I q hch w hr hc hn)
  have HI2 := Lib.hid (fun P cap w hr hc hn => ImplChain.chain_impl P cap L b a I2 q2 hch2 w hr hc hn)
  have HS1 := Lib.hid (show ∀ (P : Option Addr) (cap : Nat) (w : World), Rd w w.heap.size P (flat L) → L.length ≤ 1048576 → Calls Try.prog 8 #[.slice P L.length cap, .int .i64 a, .int .i64 b] w (NbPost I q w) from fun P cap w hr hn => by
    refine (chain_spec P cap L a b w hr hn).mono ?_
    rintro e w' ⟨L', q', h, hc'⟩
    obtain ⟨rfl, rfl⟩ := one_chain hc' hch
    exact h)
  have HBK := Lib.hid (fun j hj => chain_banks hch j hj)
  have HBB := Lib.hid (show q = true → q2 = true ∧ I2.length = I.length from fun h => by subst h; exact chain_back hch hch2)
  have hI := Laws3e.ischain_len hch
  have hI2 := Laws3e.ischain_len hch2
  clear hch hch2
  have HML := Lib.hid (show I.length ≤ maxLen by unfold maxLen; omega)
  have hzs := HB.size
  go_wp2_with fail
  refine (HI1.out (some ⟨g, 0, none⟩) c _ (Rd.of_own O) hcp (by omega)).mono ?_
  rintro e v1 ⟨A1, c1, rfl, O1, hv1⟩
  replace HB := be HB hv1
  replace O := own_keep O hv1
  have zhv1 := hv1.size
  replace O1 := own_base O1 (base' := w.heap.size) hzs
  go_wp2_with fail
  refine (HS1.out (some ⟨g, 0, none⟩) c _ (Rd.of_own O) (by omega)).mono ?_
  rintro e v2 ⟨A2, c2, rfl, O2, hv2⟩
  replace HB := be HB hv2
  replace O := own_keep O hv2
  replace O1 := own_keep O1 hv2
  have zhv2 := hv2.size
  go_wp2_with fail
  refine (vints_any A1 A2 c1 c2 I I _ (Rd.of_own O1) (Rd.of_own O2) HML.out HML.out).mono ?_
  rintro e v3 ⟨rfl, hv3⟩
  replace HB := be HB hv3
  replace O := own_keep O hv3
  replace O1 := own_keep O1 hv3
  have zhv3 := hv3.size
  rw [decide_eq_true rfl]
  clear O2
  go_upto_block 0 with fail
  go_cut [] from 10 (fun wc => wc.ownsRow w.heap.size 54 6 (.slice (some ⟨g, 0, none⟩) L.length c) L.length (flat L) ∧ Below w.heap.size w wc)
  case first => as_aux_lemma =>
    go_wp2_with fail
    go_loopw [10] (fun i wr => ∃ (k : Nat), (k = 0 ∨ k + 1 ≤ I.length) ∧ i = .int .i64 ((k : Int) + 1) ∧ wr.ownsRow w.heap.size 54 6 (.slice (some ⟨g, 0, none⟩) L.length c) L.length (flat L) ∧ wr.ownsRow w.heap.size 3 1 (.slice A1 I.length c1) I.length (iv I) ∧ Below w.heap.size w wr) (fun i _ => I.length + 1 - (intOf i).toNat)
    case atStart => exact ⟨0, Or.inl rfl, rfl, O, O1, HB⟩
    case round =>
      clear O O1 HB hzs
      obtain ⟨k, hk, rfl, O, O1, HB⟩ := hrel
      by_cases hlt : k + 1 < I.length
      · obtain ⟨b1, rfl⟩ := ImplChain.own_at O1 (by omega)
        obtain ⟨r, hbv, hr1⟩ := HBK.out k hlt
        obtain ⟨x0, hx0⟩ : ∃ x0, I[k] = x0 := ⟨_, rfl⟩
        obtain ⟨x1, hx1⟩ : ∃ x1, I[k + 1] = x1 := ⟨_, rfl⟩
        rw [hx0, hx1] at hbv
        have HBV := Lib.hid hbv; clear hbv
        have H0 := Lib.hid (show I[k]? = some x0 by rw [List.getElem?_eq_getElem (by omega), hx0])
        have H1 := Lib.hid (show I[k + 1]? = some x1 by rw [List.getElem?_eq_getElem hlt, hx1])
        clear hx0 hx1
        have k1 : decide (r < 1) = false := decide_eq_false (by omega)
        have hki : (k : Int) + 1 < I.length := by omega
        have hki2 : decide ((k : Int) + 1 < I.length) = true := decide_eq_true hki
        have hk0 : k < I.length := by omega
        have y0 : IntKind.i64.wrap ((k : Int) + 1 - 1) = (k : Int) := by rw [Int.add_sub_cancel]; exact IntWalk.i64_in _ (by omega)
        have y1 : IntKind.i64.wrap ((k : Int) + 1 + 1) = (k : Int) + 1 + 1 := IntWalk.i64_in _ (by omega)
        have yt : ((k : Int) + 1).toNat = k + 1 := by omega
        have yk : IntKind.i64.wrap (k : Int) = (k : Int) := IntWalk.i64_in _ (by omega)
        have hk9 : (k : Int) < I.length := by omega
        have hk8 : (0 : Int) ≤ (k : Int) + 1 := by omega
        have HLT := Lib.hid hlt
        have hl9 : L.length ≤ 1048576 := by omega
        go_upto_region 11 with fail
        refine wp_region_text (fun w' => Below w.heap.size w w' ∧ w'.ownsRow (w.heap.size) 54 6 (.slice (some ⟨g, 0, none⟩) L.length c) (L.length) (flat L) ∧ w'.ownsRow (w.heap.size) 3 1 (.slice (some ⟨b1, 0, none⟩) I.length c1) (I.length) (iv I)) (by kernel_rfl) (by kernel_rfl) ⟨be HB (Below.refl _ _).drew, own_keep O (Below.refl _ _).drew, own_keep O1 (Below.refl _ _).drew⟩ ?_
        iterate 16 (
          apply SeqH.one
          · intro uw K hS hK
            obtain ⟨qHB, qO, qO1⟩ := hS
            first
              | (go_simp; exact hK.out _ ⟨qHB, qO, qO1⟩)
              | (go_simp; have m0 := row_get qO1 H0.out; have m1 := row_get qO1 H1.out; go_simp; exact hK.out _ ⟨qHB, qO, qO1⟩)
              | (go_simp; go_at_call 10; (with_reducible refine (bankof_impl (some ⟨g, 0, none⟩) c L x0 x1 _ (Rd.of_own qO) hcp hl9).mono ?_); rintro e uw1 ⟨rfl, hv⟩; rw [HBV.out]; go_wp2_with fail; exact hK.out _ ⟨be qHB hv, own_keep qO hv, own_keep qO1 hv⟩)
          try simp only [Act.put, List.setIfInBounds_toArray, List.set_cons_zero, List.set_cons_succ])
        refine SeqH.end' rfl ?_
        intro v1 hS
        clear HB O O1
        obtain ⟨HB, O, O1⟩ := hS
        go_wp2
        go_roundw
        case rel => exact ⟨k + 1, Or.inr HLT.out, by first | go_num | (congr 1; omega), O, O1, HB⟩
        case measure => have := HLT.out; simp [intOf]; omega
      · have hki2 : decide ((k : Int) + 1 < I.length) = false := decide_eq_false (by omega)
        go_wp2
        go_meet
        exact ⟨O, HB⟩
  case rest =>
    clear O O1 HB hzs HI1 HS1 HBK HML
    obtain ⟨O, HB⟩ := hcut
    go_wp2_with fail
    refine (HI2.out (some ⟨g, 0, none⟩) c _ (Rd.of_own O) hcp (by omega)).mono ?_
    rintro e v1 ⟨A3, c3, rfl, O3, hv1⟩
    replace HB := be HB hv1
    replace O := own_keep O hv1
    have zhv1 := hv1.size
    clear O3
    go_upto_region 15 with fail
    go_cut [118] from 43 (fun cnd wc => cnd = .bool false ∧ wc.ownsRow w.heap.size 54 6 (.slice (some ⟨g, 0, none⟩) L.length c) L.length (flat L) ∧ Below w.heap.size w wc)
    case first => as_aux_lemma =>
      cases q
      · go_wp2
        go_meet
        exact ⟨rfl, O, HB⟩
      · have hq2 := HBB.out rfl
        have e2 := hq2.1
        have h7 : ((I2.length : Int) != (I.length : Int)) = false := by rw [hq2.2]; simp
        subst e2
        clear hq2
        go_wp2
        go_meet
        exact ⟨rfl, O, HB⟩
    case rest =>
      clear O HB HI2 HBB hI hI2
      obtain ⟨rfl, O, HB⟩ := hcut
      obtain ⟨xf, hxf⟩ := free_form L
      generalize hqg : good L = qg at hxf
      have HXF := Lib.hid hxf; have HQG := Lib.hid hqg; clear hxf hqg
      go_wp2_with fail
      refine (Pond8.free_impl (some ⟨g, 0, none⟩) c L _ (Rd.of_own O) hcp (by omega)).mono ?_
      rintro e v1 ⟨rfl, hv1⟩
      replace HB := be HB hv1
      replace O := own_keep O hv1
      have zhv1 := hv1.size
      rw [HXF.out]
      go_wp2_with fail
      refine (Pond4.free_spec (some ⟨g, 0, none⟩) c L _ (Rd.of_own O) (by omega)).mono ?_
      rintro e v2 ⟨rfl, hv2⟩
      replace HB := be HB hv2
      replace O := own_keep O hv2
      have zhv2 := hv2.size
      rw [HXF.out]
      go_wp2_with fail
      refine (IPond2.are_impl (some ⟨g, 0, none⟩) c L _ (Rd.of_own O) hcp (by omega)).mono ?_
      rintro e v3 ⟨rfl, hv3⟩
      replace HB := be HB hv3
      replace O := own_keep O hv3
      have zhv3 := hv3.size
      rw [HQG.out]
      clear O
      have hzs := HB.size
      go_wp2_with fail
      refine (drawJoin A cap zs _ (HC.out.below HB)).mono ?_
      rintro e v4 ⟨L2, g2, d2, x2, y2, hl2, _, _, _, rfl, P2, hv4⟩
      replace HB := be HB hv4
      have zhv4 := hv4.size
      replace P2 := own_base P2 (base' := w.heap.size) hzs
      have HS2 := Lib.hid (fun P cap w hr hn => join_spec P cap L2 x2 y2 w hr hn)
      have HJ2 := Lib.hid (fun P cap w hr hc hn => JPond3.join_impl P cap L2 x2 y2 w hr hc hn)
      have HJT := Lib.hid (fun h : joinOk L2 x2 y2 = true => join_told h)
      have hM := joinL_len L2 x2 y2
      unfold JPost at HS2 HJ2
      generalize joinL L2 x2 y2 = M at *
      generalize joinOk L2 x2 y2 = qj at *
      have HMM := Lib.hid (show M.length ≤ maxLen by unfold maxLen; omega)
      have hzs := HB.size
      go_wp2_with fail
      refine (HJ2.out (some ⟨g2, 0, none⟩) d2 _ (Rd.of_own P2) (own_cap P2) (by omega)).mono ?_
      rintro e v5 ⟨A5, c5, rfl, O5, hv5⟩
      replace HB := be HB hv5
      replace P2 := own_keep P2 hv5
      have zhv5 := hv5.size
      replace O5 := own_base O5 (base' := w.heap.size) hzs
      go_wp2_with fail
      refine (HS2.out (some ⟨g2, 0, none⟩) d2 _ (Rd.of_own P2) (by omega)).mono ?_
      rintro e v6 ⟨A6, c6, rfl, O6, hv6⟩
      replace HB := be HB hv6
      replace P2 := own_keep P2 hv6
      replace O5 := own_keep O5 hv6
      have zhv6 := hv6.size
      go_wp2_with fail
      refine (rponds_same A5 A6 c5 c6 M _ (Rd.of_own O5) (Rd.of_own O6) HMM.out).mono ?_
      rintro e v7 ⟨rfl, hv7⟩
      replace HB := be HB hv7
      replace P2 := own_keep P2 hv7
      replace O5 := own_keep O5 hv7
      have zhv7 := hv7.size
      clear O6
      go_upto_if 172 with fail
      go_cut [] from 26 (fun wc => Below w.heap.size w wc)
      case first => as_aux_lemma =>
        cases qj
        · go_wp2
          go_meet
          exact HB
        · obtain ⟨r, hr1, hr2⟩ := HJT.out rfl
          have HR1 := Lib.hid hr1; have HR2 := Lib.hid hr2; clear hr1 hr2
          go_wp2_with fail
          refine (Pond8.free_impl (some ⟨g2, 0, none⟩) d2 L2 _ (Rd.of_own P2) (own_cap P2) (by omega)).mono ?_
          rintro e v8 ⟨rfl, hv8⟩
          replace HB := be HB hv8
          replace P2 := own_keep P2 hv8
          replace O5 := own_keep O5 hv8
          have zhv8 := hv8.size
          rw [HR1.out]
          go_wp2_with fail
          refine (Pond8.free_impl A5 c5 M _ (Rd.of_own O5) (own_cap O5) (by omega)).mono ?_
          rintro e v9 ⟨rfl, hv9⟩
          replace HB := be HB hv9
          replace P2 := own_keep P2 hv9
          replace O5 := own_keep O5 hv9
          have zhv9 := hv9.size
          rw [HR2.out]
          go_wp2
          go_meet
          exact HB
      case rest =>
        clear P2 O5 HB hzs HS2 HJ2 HJT hM HMM
        have HB := hcut
        clear hcut
        have hzs := HB.size
        go_wp2_with fail
        refine (drawCut A cap zs _ (HC.out.below HB)).mono ?_
        rintro e v1 ⟨L3, g3, d3, x3, y3, hl3, _, _, _, rfl, P3, hv1⟩
        replace HB := be HB hv1
        have zhv1 := hv1.size
        replace P3 := own_base P3 (base' := w.heap.size) hzs
        have HS3 := Lib.hid (fun P cap w hr hn => cut_spec P cap L3 x3 y3 w hr hn)
        have HJ3 := Lib.hid (fun P cap w hr hc hn => Cut2.cut_impl P cap L3 x3 y3 w hr hc hn)
        have HCT := Lib.hid (fun h : cutOk L3 x3 y3 = true => cut_told h)
        have hM := cutL_len L3 x3 y3
        unfold CutPost at HS3 HJ3
        generalize cutL L3 x3 y3 = M3 at *
        generalize cutN L3 x3 y3 = n3 at *
        generalize cutOk L3 x3 y3 = q3 at *
        have HMM := Lib.hid (show M3.length ≤ maxLen by unfold maxLen; omega)
        have HL3 := Lib.hid (show L3.length ≤ maxLen by unfold maxLen; omega)
        have hzs := HB.size
        go_wp2_with fail
        refine (HJ3.out (some ⟨g3, 0, none⟩) d3 _ (Rd.of_own P3) (own_cap P3) (by omega)).mono ?_
        rintro e v2 ⟨A7, c7, rfl, O7, hv2⟩
        replace HB := be HB hv2
        replace P3 := own_keep P3 hv2
        have zhv2 := hv2.size
        replace O7 := own_base O7 (base' := w.heap.size) hzs
        go_wp2_with fail
        refine (HS3.out (some ⟨g3, 0, none⟩) d3 _ (Rd.of_own P3) (by omega)).mono ?_
        rintro e v3 ⟨A8, c8, rfl, O8, hv3⟩
        replace HB := be HB hv3
        replace P3 := own_keep P3 hv3
        replace O7 := own_keep O7 hv3
        have zhv3 := hv3.size
        go_wp2_with fail
        refine (rponds_same A7 A8 c7 c8 M3 _ (Rd.of_own O7) (Rd.of_own O8) HMM.out).mono ?_
        rintro e v4 ⟨rfl, hv4⟩
        replace HB := be HB hv4
        replace P3 := own_keep P3 hv4
        replace O7 := own_keep O7 hv4
        have zhv4 := hv4.size
        clear O8
        cases q3
        · go_wp2
          go_ret
          exact ⟨rfl, HB⟩
        · obtain ⟨⟨r, hr1, hr2⟩, hjo, hjl⟩ := HCT.out rfl
          have k2 : decide (r < 1) = false := decide_eq_false (by omega)
          have HR1 := Lib.hid hr1; clear hr1
          have HJB := Lib.hid (fun P cap w hr hc hn => JPond3.join_impl P cap M3 x3 n3 w hr hc hn)
          rw [hjo, hjl] at HJB
          unfold JPost at HJB
          clear hjo hjl
          go_wp2_with fail
          refine (bankof_impl A7 c7 M3 x3 n3 _ (Rd.of_own O7) (own_cap O7) (by omega)).mono ?_
          rintro e v5 ⟨rfl, hv5⟩
          replace HB := be HB hv5
          replace P3 := own_keep P3 hv5
          replace O7 := own_keep O7 hv5
          have zhv5 := hv5.size
          rw [HR1.out]
          go_wp2_with fail
          refine (HJB.out A7 c7 _ (Rd.of_own O7) (own_cap O7) (by omega)).mono ?_
          rintro e v6 ⟨A9, c9, rfl, O9, hv6⟩
          replace HB := be HB hv6
          replace P3 := own_keep P3 hv6
          replace O7 := own_keep O7 hv6
          have zhv6 := hv6.size
          go_wp2_with fail
          refine (rponds_same A9 (some ⟨g3, 0, none⟩) c9 d3 L3 _ (Rd.of_own O9) (Rd.of_own P3) HL3.out).mono ?_
          rintro e v7 ⟨rfl, hv7⟩
          replace HB := be HB hv7
          replace P3 := own_keep P3 hv7
          replace O7 := own_keep O7 hv7
          have zhv7 := hv7.size
          clear O9
          go_wp2
          go_ret
          exact ⟨rfl, HB⟩
end Go.Proofs.Ytncdkfkihfhcgaa.ChainLaw
