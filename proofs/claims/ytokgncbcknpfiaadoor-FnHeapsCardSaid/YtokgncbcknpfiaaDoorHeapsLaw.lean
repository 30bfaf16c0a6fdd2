/- FnHeaps, walked. Made by tools/mk_heapslaw.py. -/
import Derived.Deep.Cut
import Derived.Deep.CutBlock
import Derived.Deep.CutRange
import Derived.Deep.DeepCutAuto
import Derived.Test.YtokgncbcknpfiaaDoorHeapFacts
import Derived.Test.YtokgncbcknpfiaaDoorRHeaps
import Derived.Test.YtokgncbcknpfiaaDoorDHeaps4
import Derived.Test.YtokgncbcknpfiaaDoorDHeaps5
import Derived.Test.YtokgncbcknpfiaaDoorHeapX
import Derived.Test.YtokgncbcknpfiaaDoorHeapR
import Derived.Test.YtokgncbcknpfiaaDoorHText
namespace Go.Proofs.YtokgncbcknpfiaaDoor.HeapsLaw
open Go.RowKit Go.Proofs.YtokgncbcknpfiaaDoor.Mem Go.Proofs.YtokgncbcknpfiaaDoor.Base Go.Proofs.YtokgncbcknpfiaaDoor.SInt Go.Proofs.YtokgncbcknpfiaaDoor.Nest Go.Proofs.YtokgncbcknpfiaaDoor.HeapS Go.Proofs.YtokgncbcknpfiaaDoor.HeapW Go.Proofs.YtokgncbcknpfiaaDoor.Heap Go.Proofs.YtokgncbcknpfiaaDoor.Heap2 Go.Proofs.YtokgncbcknpfiaaDoor.Heap3 Go.Proofs.YtokgncbcknpfiaaDoor.Boxes Go.Proofs.YtokgncbcknpfiaaDoor.Keep Go.Proofs.YtokgncbcknpfiaaDoor.HeapFacts
set_option linter.unusedVariables false
set_option linter.unusedSimpArgs false
set_option maxRecDepth 100000
abbrev Yes (w : World) (e : Ending) (w' : World) : Prop := e = .returned (.bool true) ∧ Below w.heap.size w w'
theorem bne_b (q : Bool) : (q != q) = false := by cases q <;> rfl
theorem own_hs {w : World} {lo top : Nat} {A : Option Addr} {c : Nat} {m : List R} {F : List H} (ho : Own w lo top A c m) (hF : pl m = F) (hb : F = [] ∨ good F = true) : Hs w top A m := by
  rcases hb with h | h
  · have hm : m.length = 0 := by rw [← pl_len m, hF, h]; rfl
    obtain rfl := List.eq_nil_of_length_eq_zero hm
    exact Hs.nil
  · refine ho.hs (by rw [← pl_len m, hF]; have := good_len h; omega) (fun x hx => ?_)
    have hx2 : x.pure ∈ F := by rw [← hF]; exact List.mem_map.2 ⟨x, hx, rfl⟩
    have := okLs_len (okH_true (good_mem h _ hx2)).2.2.2.2
    have e : x.pure.ls.length = x.f2.ls.length := rfl
    omega
theorem put_or (l : List H) (id g t : Int) : putH l id g t = [] ∨ good (putH l id g t) = true := by
  cases h : putOk l id g t
  · exact .inl (put_no h)
  · exact .inr (put_facts h).2.2.1
theorem take_or (l : List H) (id t : Int) : takeH l id t = [] ∨ good (takeH l id t) = true := by
  cases h : takeOk l id t
  · exact .inl (take_no h)
  · exact .inr (take_good h)
theorem txt_form (x : H) : ∃ s, HText.txtV x = .tuple #[.string s, .bool (okH x)] := by
  cases h : okH x
  · exact ⟨_, HText.txt_no h⟩
  · unfold HText.txtV; rw [if_pos h]; exact ⟨_, rfl⟩
set_option maxHeartbeats 8000000 in
theorem law (A : Option Addr) (cap : Nat) (zs : List Int) (w : World) (hr : Rd w w.heap.size A (zs.map (Value.int .u8))) (hn : zs.length ≤ maxLen) (hb : ∀ z ∈ zs, 0 ≤ z ∧ z ≤ 255) (hTab : Num.Tab w) :
    Calls Tryd.prog 3 #[.slice A zs.length cap] w (Yes w) := by
  by_cases hbig : 65536 < zs.length
  · have HG := Lib.hid (show Draw.bigB zs.length = true from decide_eq_true hbig)
    clear hr hb
    go_enter Tryd.func3, Tryd.ntmps3
    go_wp2_with fail
    refine (RLaw.rbig_any A cap zs.length w hn).mono ?_
    rintro e w' ⟨rfl, rfl⟩
    rw [HG.out]
    go_wp2
    go_ret
    exact ⟨rfl, Below.refl _ _⟩
  have HG := Lib.hid (show Draw.bigB zs.length = false from decide_eq_false hbig)
  have HN := Lib.hid hn; clear hn
  have HTAB := Lib.hid hTab; clear hTab
  have HC := Lib.hid (show Draw.Src w A zs from ⟨hr, by omega, hb⟩); clear hr hb
  go_enter Tryd.func3, Tryd.ntmps3
  go_wp2_with fail
  refine (RLaw.rbig_any A cap zs.length w HN.out).mono ?_
  rintro e w' ⟨rfl, rfl⟩
  rw [HG.out]
  clear HG hbig HN
  go_wp2_with fail
  refine (DHeaps4.drawPut A cap zs w HC.out).mono ?_
  rintro e w1 ⟨l, g, c, id, gr, t, hl, rfl, hL, hB⟩
  have HB := Lib.hid hB
  have HL := Lib.hid hL
  clear hB hL hl
  have HPF := Lib.hid (fun h => put_facts (l := pl l) (id := id) (g := gr) (t := t) h)
  have HPO := Lib.hid (put_or (pl l) id gr t)
  have him := fun w h => HeapV.put_impl (some ⟨g, 0, none⟩) c l id gr t w h
  have hsp := fun w h => HeapX.put_spec (some ⟨g, 0, none⟩) c l id gr t w h
  obtain ⟨F, hF⟩ : ∃ F, putH (pl l) id gr t = F := ⟨_, rfl⟩
  obtain ⟨q, hq⟩ : ∃ q, putOk (pl l) id gr t = q := ⟨_, rfl⟩
  simp only [hF, hq] at him hsp
  have HF := Lib.hid hF; clear hF
  have HQ := Lib.hid hq; clear hq
  have HIM := Lib.hid him; clear him
  have HSP := Lib.hid hsp; clear hsp
  go_wp2_with fail
  refine (HIM.out _ HL.out).mono ?_
  rintro e w2 ⟨m, A1, c1, hm, rfl, ho, hv⟩
  have HM := Lib.hid (own_hs ho hm (by rw [← HF.out]; exact HPO.out))
  have HMP := Lib.hid hm
  clear ho hm
  replace HB := Lib.hid (be HB.out hv); replace HL := Lib.hid (HL.out.keep hv); clear hv
  go_wp2_with fail
  refine (HSP.out _ HL.out).mono ?_
  rintro e w3 ⟨m2, A2, c2, hm2, rfl, ho2, hv⟩
  have HM2 := Lib.hid (own_hs ho2 hm2 (by rw [← HF.out]; exact HPO.out))
  have HMP2 := Lib.hid hm2
  clear ho2 hm2 HIM HSP
  replace HB := Lib.hid (be HB.out hv); replace HL := Lib.hid (HL.out.keep hv); replace HM := Lib.hid (HM.out.keep hv); clear hv
  have b1 := bne_b q
  go_wp2_with fail
  refine (RHeaps.rheaps_same A1 A2 c1 c2 m m2 _ HM.out HM2.out (HMP.out.trans HMP2.out.symm)).mono ?_
  rintro e w4 ⟨rfl, hv⟩
  replace HB := Lib.hid (be HB.out hv); replace HL := Lib.hid (HL.out.keep hv); replace HM := Lib.hid (HM.out.keep hv); clear hv
  clear HM2 HMP2
  go_upto_if 78 with fail
  go_cut [] from 3 (fun wc => Below w.heap.size w wc)
  case first => as_aux_lemma =>
    cases q
    · go_wp2
      go_meet
      case rel => exact HB.out
    obtain ⟨⟨a, ha, hb2, r0, r1, r2, r3⟩, hgl, hgF, htk, htb⟩ := HPF.out HQ.out
    rw [HF.out] at hb2 hgF htk htb
    have HA := Lib.hid ha; clear ha
    have HB2 := Lib.hid hb2; clear hb2
    have HGL := Lib.hid hgl; clear hgl
    have HGF := Lib.hid hgF; clear hgF
    have HTK := Lib.hid htk; clear htk
    have HTB := Lib.hid htb; clear htb
    have e1 : IntKind.i64.wrap (a + t) = a + t := IntWalk.i64_in _ (by omega)
    clear b1 HPF HPO
    go_wp2_with fail
    refine (HeapT.tonsOf_impl (some ⟨g, 0, none⟩) c l gr _ HL.out).mono ?_
    rw [HA.out]
    rintro e w5 ⟨rfl, hv⟩
    replace HB := Lib.hid (be HB.out hv); replace HL := Lib.hid (HL.out.keep hv); replace HM := Lib.hid (HM.out.keep hv); clear hv
    go_wp2_with fail
    refine (HeapT.tonsOf_impl A1 c1 m gr _ HM.out).mono ?_
    rw [HMP.out, HB2.out]
    rintro e w6 ⟨rfl, hv⟩
    replace HB := Lib.hid (be HB.out hv); replace HL := Lib.hid (HL.out.keep hv); replace HM := Lib.hid (HM.out.keep hv); clear hv
    go_wp2_with fail
    refine (HeapV.takeT_impl A1 c1 m id t _ HM.out).mono ?_
    rw [HMP.out, HTB.out, HTK.out]
    rintro e w7 ⟨m3, A3, c3, hm3, rfl, ho3, hv⟩
    have HM3 := Lib.hid (own_hs ho3 hm3 (.inr HGL.out))
    have HMP3 := Lib.hid hm3
    clear ho3 hm3
    replace HB := Lib.hid (be HB.out hv); replace HL := Lib.hid (HL.out.keep hv); replace HM := Lib.hid (HM.out.keep hv); clear hv
    go_wp2_with fail
    refine (RHeaps.rheaps_same A3 (some ⟨g, 0, none⟩) c3 c m3 l _ HM3.out HL.out HMP3.out).mono ?_
    rintro e w8 ⟨rfl, hv⟩
    replace HB := Lib.hid (be HB.out hv); replace HM := Lib.hid (HM.out.keep hv); clear hv
    go_wp2_with fail
    refine (HeapG.are_impl A1 c1 m _ HM.out).mono ?_
    rw [HMP.out, HGF.out]
    rintro e w9 ⟨rfl, hv⟩
    replace HB := Lib.hid (be HB.out hv); clear hv
    go_wp2
    go_meet
    case rel => exact HB.out
  case rest => as_aux_lemma =>
    go_wp2_with fail
    refine (DHeaps3.drawFor A cap zs wc (HC.out.below hcut)).mono ?_
    rintro e w2 ⟨l, g, c, gr, n, hl, rfl, hL, hB⟩
    have HB := Lib.hid (be hcut hB)
    have HL := Lib.hid hL
    clear hcut hB hL hl
    obtain ⟨best, q, hv0⟩ := forV_form (pl l) gr n
    have HT := Lib.hid (fun h : q = true => for_facts (show forV (pl l) gr n = .tuple #[.int .i64 best, .bool true] by rw [hv0, h]))
    have HV := Lib.hid hv0; clear hv0
    have b1 := bne_b q
    go_wp2_with fail
    refine (HeapQ.for_impl (some ⟨g, 0, none⟩) c l gr n _ HL.out).mono ?_
    rw [HV.out]
    rintro e w3 ⟨rfl, hv⟩
    replace HB := Lib.hid (be HB.out hv); replace HL := Lib.hid (HL.out.keep hv); clear hv
    go_wp2_with fail
    refine (HeapR.for_spec (some ⟨g, 0, none⟩) c l gr n _ HL.out).mono ?_
    rw [HV.out]
    rintro e w4 ⟨rfl, hv⟩
    replace HB := Lib.hid (be HB.out hv); replace HL := Lib.hid (HL.out.keep hv); clear hv
    go_wp2_with fail
    refine (HeapV.put_impl (some ⟨g, 0, none⟩) c l best gr n _ HL.out).mono ?_
    obtain ⟨q2, hq2⟩ : ∃ q, putOk (pl l) best gr n = q := ⟨_, rfl⟩
    rw [hq2] at HT ⊢
    rintro e w5 ⟨m, A1, c1, hm, rfl, ho, hv⟩
    replace HB := Lib.hid (be HB.out hv); clear hv
    clear hm ho hq2 HL HV b1
    go_upto_region 20 with fail
    go_cut [166] from 163 (fun cnd wc => cnd = .bool false ∧ w5 = wc)
    case first => as_aux_lemma =>
      cases q
      · go_wp2
        go_meet
        exact ⟨rfl, rfl⟩
      · obtain rfl : q2 = true := HT.out rfl
        go_wp2
        go_meet
        exact ⟨rfl, rfl⟩
    case rest => as_aux_lemma =>
      obtain ⟨hz0, rfl⟩ := hcut
      subst hz0
      clear HT
      go_wp2_with fail
      refine (DHeaps4.drawTake A cap zs _ (HC.out.below HB.out)).mono ?_
      rintro e w6 ⟨l, g, c, x, n, hl, rfl, hL, hB⟩
      replace HB := Lib.hid (be HB.out hB)
      have HL := Lib.hid hL
      clear hB hL hl
      have HPO := Lib.hid (take_or (pl l) x n)
      have HGT := Lib.hid (fun h => take_good (l := pl l) (id := x) (t := n) h)
      have him := fun w h => HeapV.takeT_impl (some ⟨g, 0, none⟩) c l x n w h
      have hsp := fun w h => HeapX.takeT_spec (some ⟨g, 0, none⟩) c l x n w h
      obtain ⟨F, hF⟩ : ∃ F, takeH (pl l) x n = F := ⟨_, rfl⟩
      obtain ⟨q, hq⟩ : ∃ q, takeOk (pl l) x n = q := ⟨_, rfl⟩
      simp only [hF, hq] at him hsp
      have HF := Lib.hid hF; clear hF
      have HQ := Lib.hid hq; clear hq
      have HIM := Lib.hid him; clear him
      have HSP := Lib.hid hsp; clear hsp
      go_wp2_with fail
      refine (HIM.out _ HL.out).mono ?_
      rintro e w7 ⟨m, A1, c1, hm, rfl, ho, hv⟩
      have HM := Lib.hid (own_hs ho hm (by rw [← HF.out]; exact HPO.out))
      have HMP := Lib.hid hm
      clear ho hm
      replace HB := Lib.hid (be HB.out hv); replace HL := Lib.hid (HL.out.keep hv); clear hv
      go_wp2_with fail
      refine (HSP.out _ HL.out).mono ?_
      rintro e w8 ⟨m2, A2, c2, hm2, rfl, ho2, hv⟩
      have HM2 := Lib.hid (own_hs ho2 hm2 (by rw [← HF.out]; exact HPO.out))
      have HMP2 := Lib.hid hm2
      clear ho2 hm2 HIM HSP HL
      replace HB := Lib.hid (be HB.out hv); replace HM := Lib.hid (HM.out.keep hv); clear hv
      have b1 := bne_b q
      go_upto_region 25 with fail
      go_cut [203] from 187 (fun cnd wc => cnd = .bool false ∧ Below w.heap.size w wc)
      case first => as_aux_lemma =>
        go_wp2_with fail
        refine (RHeaps.rheaps_same A1 A2 c1 c2 m m2 _ HM.out HM2.out (HMP.out.trans HMP2.out.symm)).mono ?_
        rintro e w9 ⟨rfl, hv⟩
        replace HB := Lib.hid (be HB.out hv); replace HM := Lib.hid (HM.out.keep hv); clear hv
        cases q
        · go_wp2
          go_meet
          exact ⟨rfl, HB.out⟩
        · have HGF := Lib.hid (show good F = true by rw [← HF.out]; exact HGT.out HQ.out)
          go_wp2_with fail
          refine (HeapG.are_impl A1 c1 m _ HM.out).mono ?_
          rw [HMP.out, HGF.out]
          rintro e w10 ⟨rfl, hv⟩
          replace HB := Lib.hid (be HB.out hv); clear hv
          go_wp2
          go_meet
          exact ⟨rfl, HB.out⟩
      case rest => as_aux_lemma =>
        obtain ⟨hz0, hB2⟩ := hcut
        subst hz0
        replace HB := Lib.hid hB2
        clear hB2 HM HM2 HMP HMP2 b1 HPO HGT HF HQ
        go_wp2_with fail
        refine (DHeaps3.drawTons A cap zs _ (HC.out.below HB.out)).mono ?_
        rintro e w9 ⟨l, g, c, gr, hl, rfl, hL, hB⟩
        replace HB := Lib.hid (be HB.out hB)
        have HL := Lib.hid hL
        clear hB hL hl
        obtain ⟨y, q, hv0⟩ := tonsV_form (pl l) gr
        have HV := Lib.hid hv0; clear hv0
        go_wp2_with fail
        refine (HeapT.tonsOf_impl (some ⟨g, 0, none⟩) c l gr _ HL.out).mono ?_
        rw [HV.out]
        rintro e w10 ⟨rfl, hv⟩
        replace HB := Lib.hid (be HB.out hv); replace HL := Lib.hid (HL.out.keep hv); clear hv
        go_wp2_with fail
        refine (HeapT.tonsOf_spec (some ⟨g, 0, none⟩) c l gr _ HL.out).mono ?_
        rw [HV.out]
        rintro e w11 ⟨rfl, hv⟩
        replace HB := Lib.hid (be HB.out hv); clear hv
        clear HL HV
        go_wp2_with fail
        refine (DHeaps5.drawText A cap zs _ (HC.out.below HB.out)).mono ?_
        rintro e w12 ⟨x, hx, he, O, hB⟩
        obtain rfl : e = .returned (.agg #[.int .i64 x.f0, .int .i64 x.f1, .slice x.f2.A x.f2.ls.length x.f2.cap, .bool x.f3]) := he
        replace HB := Lib.hid (be HB.out hB)
        have HR := Lib.hid O.rd
        clear O hB
        have HX1 := Lib.hid (show x.f2.ls.length ≤ 1048576 by omega)
        have HX2 := Lib.hid (show x.f2.ls.length ≤ 1000 by omega)
        clear hx
        obtain ⟨s, hs⟩ := txt_form x.pure
        obtain ⟨k, hk⟩ : ∃ k, okH x.pure = k := ⟨_, rfl⟩
        rw [hk] at hs
        have HS := Lib.hid hs; clear hs
        have HK := Lib.hid hk; clear hk
        go_upto_region 31 with fail
        have X := Box.new HB.out [.int .i64 x.f0, .int .i64 x.f1, .slice x.f2.A x.f2.ls.length x.f2.cap, .bool x.f3] 41 (g := w12.heap.size) rfl
        have hva : Below w12.heap.size w12 (w12.alloc (.cells #[.int .i64 x.f0, .int .i64 x.f1, .slice x.f2.A x.f2.ls.length x.f2.cap, .bool x.f3] 41)) := al (Below.refl _ _)
        replace HR := Lib.hid (rd_keep HR.out hva)
        clear hva
        have HX := Lib.hid X; clear X
        have x0 := HX.out.cells 0 _ rfl
        have x1 := HX.out.cells 1 _ rfl
        have x2 := HX.out.cells 2 _ rfl
        have x3 := HX.out.cells 3 _ rfl
        go_wp2_with fail
        refine (HText.text_impl x _ HR.out HX1.out (HTAB.out.below HX.out.below)).mono ?_
        rw [HS.out]
        rintro e w13 ⟨rfl, hv⟩
        clear x0 x1 x2 x3
        replace HX := Lib.hid (HX.out.more hv)
        replace HR := Lib.hid (rd_keep HR.out hv)
        clear hv
        have x0 := HX.out.cells 0 _ rfl
        have x1 := HX.out.cells 1 _ rfl
        have x2 := HX.out.cells 2 _ rfl
        have x3 := HX.out.cells 3 _ rfl
        go_wp2_with fail
        refine (HText.text_spec x _ HR.out HX1.out).mono ?_
        rw [HS.out]
        rintro e w14 ⟨rfl, hv⟩
        clear x0 x1 x2 x3
        replace HX := Lib.hid (HX.out.more hv)
        replace HR := Lib.hid (rd_keep HR.out hv)
        clear hv
        have x0 := HX.out.cells 0 _ rfl
        have x1 := HX.out.cells 1 _ rfl
        have x2 := HX.out.cells 2 _ rfl
        have x3 := HX.out.cells 3 _ rfl
        go_wp2_with fail
        refine (HeapG.one_impl x _ HR.out HX1.out).mono ?_
        rw [HK.out]
        rintro e w15 ⟨rfl, hv⟩
        clear x0 x1 x2 x3
        replace HX := Lib.hid (HX.out.more hv)
        clear hv
        go_wp2
        go_ret
        exact ⟨rfl, HX.out.below⟩
end Go.Proofs.YtokgncbcknpfiaaDoor.HeapsLaw
