/- FnSeries, walked. Made by tools/mk_serieslaw.py. -/
import Derived.Test.YtciohcipmkhneaaSeriesFacts
import Derived.Test.YtciohcipmkhneaaDSer3
import Derived.Test.YtciohcipmkhneaaSerS
import Derived.Test.YtciohcipmkhneaaSerE
import Derived.Test.YtciohcipmkhneaaSerF
import Derived.Test.YtciohcipmkhneaaSerA3
import Derived.Deep.CutBlock
import Derived.Deep.Cut
import Derived.Deep.DeepCutAuto
namespace Go.Proofs.Ytciohcipmkhneaa.SeriesLaw
open Go.RowKit Go.Proofs.Ytciohcipmkhneaa.Mem Go.Proofs.Ytciohcipmkhneaa.Base Go.Proofs.Ytciohcipmkhneaa.Brine Go.Proofs.Ytciohcipmkhneaa.Regn Go.Proofs.Ytciohcipmkhneaa.Boxes Go.Proofs.Ytciohcipmkhneaa.Keep Go.Proofs.Ytciohcipmkhneaa.Ser Go.Proofs.Ytciohcipmkhneaa.SeriesFacts Go.Proofs.Ytciohcipmkhneaa.DSer
open Go.Proofs.Ytciohcipmkhneaa.SBasin hiding RPost rpost
set_option linter.unusedVariables false
set_option linter.unusedSimpArgs false
set_option maxRecDepth 100000
def Yes (w : World) (e : Ending) (w' : World) : Prop := e = .returned (.bool true) ∧ Below w.heap.size w w'
theorem is_spec (P : Option Addr) (cap : Nat) (l : List R) (w : World) (hr : Rd w w.heap.size P (flat l)) (hn : l.length ≤ 1048576) :
    Calls Try.prog 22 #[.slice P l.length cap] w (Brine.RPost (.bool (good l)) w) := by
  go_enter Try.func22, Try.ntmps22
  go_wp2_with fail
  refine (SerG.good_spec P cap l w hr hn).mono ?_
  rintro e w1 ⟨rfl, HB⟩
  go_wp2
  go_ret
  exact Brine.rpost rfl HB
set_option maxHeartbeats 8000000 in
theorem law (A : Option Addr) (cap : Nat) (zs : List Int) (w : World) (hr : Rd w w.heap.size A (zs.map (Value.int .u8))) (hn : zs.length ≤ maxLen) (hb : ∀ z ∈ zs, 0 ≤ z ∧ z ≤ 255) :
    Calls Try.prog 3 #[.slice A zs.length cap] w (Yes w) := by
  by_cases hbig : 65536 < zs.length
  · have HG := Lib.hid (show Draw.bigB zs.length = true from decide_eq_true hbig)
    clear hr hb
    go_enter Try.func3, Try.ntmps3
    go_wp2_with fail
    refine (Draw.big_any A cap zs.length w hn).mono ?_
    rintro e w' ⟨rfl, rfl⟩
    rw [HG.out]
    go_wp2
    go_ret
    exact ⟨rfl, Below.refl _ _⟩
  have HG := Lib.hid (show Draw.bigB zs.length = false from decide_eq_false hbig)
  have HN := Lib.hid hn; clear hn
  have HC := Lib.hid (show Draw.Src w A zs from ⟨hr, by omega, hb⟩); clear hr hb
  go_enter Try.func3, Try.ntmps3
  go_wp2_with fail
  refine (Draw.big_any A cap zs.length w HN.out).mono ?_
  rintro e w' ⟨rfl, rfl⟩
  rw [HG.out]
  clear HG hbig HN
  go_wp2_with fail
  refine (DSer3.drawAfter A cap zs w HC.out).mono ?_
  rintro e w1 ⟨L, g, c, x, y, n, hl, rfl, O, HB0⟩
  go_wp2_with fail
  have B := Box.new HB0 [.int .i64 x, .int .i64 y] 26 (g := w1.heap.size) rfl
  replace O := own_keep O (al (Below.refl _ _) (o := (.cells #[.int .i64 x, .int .i64 y] 26)))
  generalize (w1.alloc (.cells #[.int .i64 x, .int .i64 y] 26)) = W1 at B O ⊢
  have B_0 := B.cells 0 _ rfl
  have B_1 := B.cells 1 _ rfl
  have B_f0 := B.free 0 (by simp)
  have B_f1 := B.free 1 (by simp)
  have B_t := B.there
  have hs := fun P cap w hr => SerA.one_spec P cap L x y n w hr (by omega)
  have hi := fun P cap w hr hc => SerA3.one_impl P cap L x y n w hr hc (by omega)
  have hm : (runS L x y n 1).l.length ≤ 100 := run_len L x y n 1
  have hf := fun h : runOk L x y n 1 = true => one_sum h
  unfold SerQ.Row3 at hs hi
  generalize (runS L x y n 1).l = M at hs hi hm hf
  generalize (runS L x y n 1).p = u at hs hi hf
  generalize (runS L x y n 1).q = v at hs hi hf
  generalize runOk L x y n 1 = q at hs hi hf
  have HSP := Lib.hid hs; clear hs
  have HIM := Lib.hid hi; clear hi
  have HF := Lib.hid hf; clear hf
  obtain ⟨gd, hgd⟩ : ∃ b, good L = b := ⟨_, rfl⟩
  have HGD := Lib.hid hgd; clear hgd
  have hcp := own_cap O
  have hb1 := B.below.size
  go_wp2_with fail
  refine (HIM.out _ _ _ (Rd.of_own O) hcp).mono ?_
  rintro e v2 ⟨A1, k1, rfl, O1, hv2⟩
  clear B_0 B_1 B_f0 B_f1 B_t
  replace B := B.more hv2
  replace O := own_keep O hv2
  have zhv2 := hv2.size
  clear hv2
  have B_0 := B.cells 0 _ rfl
  have B_1 := B.cells 1 _ rfl
  have B_f0 := B.free 0 (by simp)
  have B_f1 := B.free 1 (by simp)
  have B_t := B.there
  replace O1 := own_base O1 (base' := w.heap.size) hb1
  have hcp1 := own_cap O1
  go_wp2_with fail
  have B_t3 := B.there
  have E := Box.new B.below [.int .i64 u, .int .i64 v] 26 (g := v2.heap.size) rfl
  clear B_0 B_1 B_f0 B_f1 B_t
  replace B := (B).alloc (.cells #[.int .i64 u, .int .i64 v] 26)
  replace O := own_keep O (al (Below.refl _ _) (o := (.cells #[.int .i64 u, .int .i64 v] 26)))
  replace O1 := own_keep O1 (al (Below.refl _ _) (o := (.cells #[.int .i64 u, .int .i64 v] 26)))
  generalize (v2.alloc (.cells #[.int .i64 u, .int .i64 v] 26)) = W3 at E B O O1 ⊢
  have B_0 := B.cells 0 _ rfl
  have B_1 := B.cells 1 _ rfl
  have B_f0 := B.free 0 (by simp)
  have B_f1 := B.free 1 (by simp)
  have B_t := B.there
  have E_0 := E.cells 0 _ rfl
  have E_1 := E.cells 1 _ rfl
  have E_f0 := E.free 0 (by simp)
  have E_f1 := E.free 1 (by simp)
  have E_t := E.there
  have hb2 := B.below.size
  go_wp2_with fail
  refine (HSP.out _ _ _ (Rd.of_own O)).mono ?_
  rintro e v4 ⟨A0, k0, rfl, O0, hv4⟩
  clear B_0 B_1 B_f0 B_f1 B_t
  clear E_0 E_1 E_f0 E_f1 E_t
  replace B := B.more hv4
  replace E := E.more hv4
  replace O := own_keep O hv4
  replace O1 := own_keep O1 hv4
  have zhv4 := hv4.size
  clear hv4
  have B_0 := B.cells 0 _ rfl
  have B_1 := B.cells 1 _ rfl
  have B_f0 := B.free 0 (by simp)
  have B_f1 := B.free 1 (by simp)
  have B_t := B.there
  have E_0 := E.cells 0 _ rfl
  have E_1 := E.cells 1 _ rfl
  have E_f0 := E.free 0 (by simp)
  have E_f1 := E.free 1 (by simp)
  have E_t := E.there
  replace O0 := own_base O0 (base' := w.heap.size) hb2
  go_wp2_with fail
  have B_t5 := B.there
  have E_t5 := E.there
  have F := Box.new B.below [.int .i64 u, .int .i64 v] 26 (g := v4.heap.size) rfl
  clear B_0 B_1 B_f0 B_f1 B_t
  replace B := (B).alloc (.cells #[.int .i64 u, .int .i64 v] 26)
  clear E_0 E_1 E_f0 E_f1 E_t
  replace E := (E).alloc (.cells #[.int .i64 u, .int .i64 v] 26)
  replace O := own_keep O (al (Below.refl _ _) (o := (.cells #[.int .i64 u, .int .i64 v] 26)))
  replace O1 := own_keep O1 (al (Below.refl _ _) (o := (.cells #[.int .i64 u, .int .i64 v] 26)))
  replace O0 := own_keep O0 (al (Below.refl _ _) (o := (.cells #[.int .i64 u, .int .i64 v] 26)))
  generalize (v4.alloc (.cells #[.int .i64 u, .int .i64 v] 26)) = W5 at F B E O O1 O0 ⊢
  have B_0 := B.cells 0 _ rfl
  have B_1 := B.cells 1 _ rfl
  have B_f0 := B.free 0 (by simp)
  have B_f1 := B.free 1 (by simp)
  have B_t := B.there
  have E_0 := E.cells 0 _ rfl
  have E_1 := E.cells 1 _ rfl
  have E_f0 := E.free 0 (by simp)
  have E_f1 := E.free 1 (by simp)
  have E_t := E.there
  have F_0 := F.cells 0 _ rfl
  have F_1 := F.cells 1 _ rfl
  have F_f0 := F.free 0 (by simp)
  have F_f1 := F.free 1 (by simp)
  have F_t := F.there
  go_wp2_with fail
  refine (DSer2.vbasins_any A1 A0 k1 k0 M _ (Rd.of_own O1) (Rd.of_own O0) (by omega)).mono ?_
  rintro e v6 ⟨rfl, hd⟩
  have hd2 := hd.below W5.heap.size; clear hd
  clear B_0 B_1 B_f0 B_f1 B_t
  clear E_0 E_1 E_f0 E_f1 E_t
  clear F_0 F_1 F_f0 F_f1 F_t
  replace B := B.more hd2
  replace E := E.more hd2
  replace F := F.more hd2
  replace O := own_keep O hd2
  replace O1 := own_keep O1 hd2
  replace O0 := own_keep O0 hd2
  clear hd2
  have B_0 := B.cells 0 _ rfl
  have B_1 := B.cells 1 _ rfl
  have B_f0 := B.free 0 (by simp)
  have B_f1 := B.free 1 (by simp)
  have B_t := B.there
  have E_0 := E.cells 0 _ rfl
  have E_1 := E.cells 1 _ rfl
  have E_f0 := E.free 0 (by simp)
  have E_f1 := E.free 1 (by simp)
  have E_t := E.there
  have F_0 := F.cells 0 _ rfl
  have F_1 := F.cells 1 _ rfl
  have F_f0 := F.free 0 (by simp)
  have F_f1 := F.free 1 (by simp)
  have F_t := F.there
  go_wp2_with fail
  refine (SerG.good_impl _ c L _ (Rd.of_own O) (by omega)).mono ?_
  rintro e v7 ⟨rfl, hv7⟩
  clear B_0 B_1 B_f0 B_f1 B_t
  clear E_0 E_1 E_f0 E_f1 E_t
  clear F_0 F_1 F_f0 F_f1 F_t
  replace B := B.more hv7
  replace E := E.more hv7
  replace F := F.more hv7
  replace O := own_keep O hv7
  replace O1 := own_keep O1 hv7
  replace O0 := own_keep O0 hv7
  have zhv7 := hv7.size
  clear hv7
  have B_0 := B.cells 0 _ rfl
  have B_1 := B.cells 1 _ rfl
  have B_f0 := B.free 0 (by simp)
  have B_f1 := B.free 1 (by simp)
  have B_t := B.there
  have E_0 := E.cells 0 _ rfl
  have E_1 := E.cells 1 _ rfl
  have E_f0 := E.free 0 (by simp)
  have E_f1 := E.free 1 (by simp)
  have E_t := E.there
  have F_0 := F.cells 0 _ rfl
  have F_1 := F.cells 1 _ rfl
  have F_f0 := F.free 0 (by simp)
  have F_f1 := F.free 1 (by simp)
  have F_t := F.there
  rw [HGD.out]
  go_wp2_with fail
  refine (is_spec _ c L _ (Rd.of_own O) (by omega)).mono ?_
  rintro e v8 ⟨rfl, hv8⟩
  clear B_0 B_1 B_f0 B_f1 B_t
  clear E_0 E_1 E_f0 E_f1 E_t
  clear F_0 F_1 F_f0 F_f1 F_t
  replace B := B.more hv8
  replace E := E.more hv8
  replace F := F.more hv8
  replace O := own_keep O hv8
  replace O1 := own_keep O1 hv8
  replace O0 := own_keep O0 hv8
  have zhv8 := hv8.size
  clear hv8
  have B_0 := B.cells 0 _ rfl
  have B_1 := B.cells 1 _ rfl
  have B_f0 := B.free 0 (by simp)
  have B_f1 := B.free 1 (by simp)
  have B_t := B.there
  have E_0 := E.cells 0 _ rfl
  have E_1 := E.cells 1 _ rfl
  have E_f0 := E.free 0 (by simp)
  have E_f1 := E.free 1 (by simp)
  have E_t := E.there
  have F_0 := F.cells 0 _ rfl
  have F_1 := F.cells 1 _ rfl
  have F_f0 := F.free 0 (by simp)
  have F_f1 := F.free 1 (by simp)
  have F_t := F.there
  rw [HGD.out]
  go_upto_if 94 with fail
  go_cut [] from 3 (fun wc => Below w.heap.size w wc)
  case first => as_aux_lemma =>
    cases q
    · go_wp2
      go_meet
      case rel => exact B.below
    · obtain ⟨e1, e2, e3, e4⟩ := HF.out rfl
      have b3 := okB_true e3
      have b4 := okB_true e4
      clear e3 e4
      have HE1 := Lib.hid e1; clear e1
      have HE2 := Lib.hid e2; clear e2
      obtain ⟨a1, a2, qa, hva, hqa⟩ := sum_told L
      have HVA := Lib.hid hva; clear hva
      have HQA := Lib.hid hqa; clear hqa
      obtain ⟨d1, d2, qd, hvd, hqd⟩ := sum_told M
      have HVD := Lib.hid hvd; clear hvd
      have HQD := Lib.hid hqd; clear hqd
      go_wp2_with fail
      refine (SerS.sum_impl _ c L _ (Rd.of_own O) hcp (by omega)).mono ?_
      rintro e v9 ⟨rfl, hv9⟩
      clear B_0 B_1 B_f0 B_f1 B_t
      clear E_0 E_1 E_f0 E_f1 E_t
      clear F_0 F_1 F_f0 F_f1 F_t
      replace B := B.more hv9
      replace E := E.more hv9
      replace F := F.more hv9
      replace O := own_keep O hv9
      replace O1 := own_keep O1 hv9
      replace O0 := own_keep O0 hv9
      have zhv9 := hv9.size
      clear hv9
      have B_0 := B.cells 0 _ rfl
      have B_1 := B.cells 1 _ rfl
      have B_f0 := B.free 0 (by simp)
      have B_f1 := B.free 1 (by simp)
      have B_t := B.there
      have E_0 := E.cells 0 _ rfl
      have E_1 := E.cells 1 _ rfl
      have E_f0 := E.free 0 (by simp)
      have E_f1 := E.free 1 (by simp)
      have E_t := E.there
      have F_0 := F.cells 0 _ rfl
      have F_1 := F.cells 1 _ rfl
      have F_f0 := F.free 0 (by simp)
      have F_f1 := F.free 1 (by simp)
      have F_t := F.there
      rw [HVA.out]
      unfold Brine.br
      go_wp2_with fail
      have B_t10 := B.there
      have E_t10 := E.there
      have F_t10 := F.there
      have G := Box.new B.below [.int .i64 a1, .int .i64 a2] 26 (g := v9.heap.size) rfl
      clear B_0 B_1 B_f0 B_f1 B_t
      replace B := (B).alloc (.cells #[.int .i64 a1, .int .i64 a2] 26)
      clear E_0 E_1 E_f0 E_f1 E_t
      replace E := (E).alloc (.cells #[.int .i64 a1, .int .i64 a2] 26)
      clear F_0 F_1 F_f0 F_f1 F_t
      replace F := (F).alloc (.cells #[.int .i64 a1, .int .i64 a2] 26)
      replace O := own_keep O (al (Below.refl _ _) (o := (.cells #[.int .i64 a1, .int .i64 a2] 26)))
      replace O1 := own_keep O1 (al (Below.refl _ _) (o := (.cells #[.int .i64 a1, .int .i64 a2] 26)))
      replace O0 := own_keep O0 (al (Below.refl _ _) (o := (.cells #[.int .i64 a1, .int .i64 a2] 26)))
      generalize (v9.alloc (.cells #[.int .i64 a1, .int .i64 a2] 26)) = W10 at G B E F O O1 O0 ⊢
      have B_0 := B.cells 0 _ rfl
      have B_1 := B.cells 1 _ rfl
      have B_f0 := B.free 0 (by simp)
      have B_f1 := B.free 1 (by simp)
      have B_t := B.there
      have E_0 := E.cells 0 _ rfl
      have E_1 := E.cells 1 _ rfl
      have E_f0 := E.free 0 (by simp)
      have E_f1 := E.free 1 (by simp)
      have E_t := E.there
      have F_0 := F.cells 0 _ rfl
      have F_1 := F.cells 1 _ rfl
      have F_f0 := F.free 0 (by simp)
      have F_f1 := F.free 1 (by simp)
      have F_t := F.there
      have G_0 := G.cells 0 _ rfl
      have G_1 := G.cells 1 _ rfl
      have G_f0 := G.free 0 (by simp)
      have G_f1 := G.free 1 (by simp)
      have G_t := G.there
      go_wp2_with fail
      refine (SerS.sum_impl _ k1 M _ (Rd.of_own O1) hcp1 (by omega)).mono ?_
      rintro e v11 ⟨rfl, hv11⟩
      clear B_0 B_1 B_f0 B_f1 B_t
      clear E_0 E_1 E_f0 E_f1 E_t
      clear F_0 F_1 F_f0 F_f1 F_t
      clear G_0 G_1 G_f0 G_f1 G_t
      replace B := B.more hv11
      replace E := E.more hv11
      replace F := F.more hv11
      replace G := G.more hv11
      replace O := own_keep O hv11
      replace O1 := own_keep O1 hv11
      replace O0 := own_keep O0 hv11
      have zhv11 := hv11.size
      clear hv11
      have B_0 := B.cells 0 _ rfl
      have B_1 := B.cells 1 _ rfl
      have B_f0 := B.free 0 (by simp)
      have B_f1 := B.free 1 (by simp)
      have B_t := B.there
      have E_0 := E.cells 0 _ rfl
      have E_1 := E.cells 1 _ rfl
      have E_f0 := E.free 0 (by simp)
      have E_f1 := E.free 1 (by simp)
      have E_t := E.there
      have F_0 := F.cells 0 _ rfl
      have F_1 := F.cells 1 _ rfl
      have F_f0 := F.free 0 (by simp)
      have F_f1 := F.free 1 (by simp)
      have F_t := F.there
      have G_0 := G.cells 0 _ rfl
      have G_1 := G.cells 1 _ rfl
      have G_f0 := G.free 0 (by simp)
      have G_f1 := G.free 1 (by simp)
      have G_t := G.there
      rw [HVD.out]
      unfold Brine.br
      go_upto_region 11 with fail
      have B_t12 := B.there
      have E_t12 := E.there
      have F_t12 := F.there
      have G_t12 := G.there
      have H := Box.new B.below [.int .i64 d1, .int .i64 d2] 26 (g := v11.heap.size) rfl
      clear B_0 B_1 B_f0 B_f1 B_t
      replace B := (B).alloc (.cells #[.int .i64 d1, .int .i64 d2] 26)
      clear E_0 E_1 E_f0 E_f1 E_t
      replace E := (E).alloc (.cells #[.int .i64 d1, .int .i64 d2] 26)
      clear F_0 F_1 F_f0 F_f1 F_t
      replace F := (F).alloc (.cells #[.int .i64 d1, .int .i64 d2] 26)
      clear G_0 G_1 G_f0 G_f1 G_t
      replace G := (G).alloc (.cells #[.int .i64 d1, .int .i64 d2] 26)
      replace O := own_keep O (al (Below.refl _ _) (o := (.cells #[.int .i64 d1, .int .i64 d2] 26)))
      replace O1 := own_keep O1 (al (Below.refl _ _) (o := (.cells #[.int .i64 d1, .int .i64 d2] 26)))
      replace O0 := own_keep O0 (al (Below.refl _ _) (o := (.cells #[.int .i64 d1, .int .i64 d2] 26)))
      generalize (v11.alloc (.cells #[.int .i64 d1, .int .i64 d2] 26)) = W12 at H B E F G O O1 O0 ⊢
      have B_0 := B.cells 0 _ rfl
      have B_1 := B.cells 1 _ rfl
      have B_f0 := B.free 0 (by simp)
      have B_f1 := B.free 1 (by simp)
      have B_t := B.there
      have E_0 := E.cells 0 _ rfl
      have E_1 := E.cells 1 _ rfl
      have E_f0 := E.free 0 (by simp)
      have E_f1 := E.free 1 (by simp)
      have E_t := E.there
      have F_0 := F.cells 0 _ rfl
      have F_1 := F.cells 1 _ rfl
      have F_f0 := F.free 0 (by simp)
      have F_f1 := F.free 1 (by simp)
      have F_t := F.there
      have G_0 := G.cells 0 _ rfl
      have G_1 := G.cells 1 _ rfl
      have G_f0 := G.free 0 (by simp)
      have G_f1 := G.free 1 (by simp)
      have G_t := G.there
      have H_0 := H.cells 0 _ rfl
      have H_1 := H.cells 1 _ rfl
      have H_f0 := H.free 0 (by simp)
      have H_f1 := H.free 1 (by simp)
      have H_t := H.there
      cases qa
      · go_wp2
        go_meet
        case rel => exact B.below
      cases qd
      · go_wp2
        go_meet
        case rel => exact B.below
      obtain ⟨f1, f2, f3⟩ := HQA.out rfl
      obtain ⟨h1, h2, h3⟩ := HQD.out rfl
      have e1 := HE1.out
      have e2 := HE2.out
      have y1 : IntKind.i64.wrap (a1 + x) = a1 + x := IntWalk.i64_in _ (by omega)
      have y2 : IntKind.i64.wrap (d1 + u) = d1 + u := IntWalk.i64_in _ (by omega)
      have y3 : IntKind.i64.wrap (a2 + y) = a2 + y := IntWalk.i64_in _ (by omega)
      have y4 : IntKind.i64.wrap (d2 + v) = d2 + v := IntWalk.i64_in _ (by omega)
      have z1 : (a1 + x != d1 + u) = false := by rw [bne_eq_false_iff_eq]; omega
      have z2 : (a2 + y != d2 + v) = false := by rw [bne_eq_false_iff_eq]; omega
      clear f1 f2 f3 h1 h2 h3 e1 e2 b3 b4 HQA HQD
      go_wp2
      go_meet
      case rel => exact B.below
  case rest => as_aux_lemma =>
    go_wp2_with fail
    refine (DSer3.drawPasses A cap zs wc (HC.out.below hcut)).mono ?_
    rintro e w2 ⟨L, g, c, x, y, n, t, hl, rfl, O, hB⟩
    have HB0 := be hcut hB
    replace O := own_base O (base' := w.heap.size) hcut.size
    clear hB hcut
    go_wp2_with fail
    have B := Box.new HB0 [.int .i64 x, .int .i64 y] 26 (g := w2.heap.size) rfl
    replace O := own_keep O (al (Below.refl _ _) (o := (.cells #[.int .i64 x, .int .i64 y] 26)))
    generalize (w2.alloc (.cells #[.int .i64 x, .int .i64 y] 26)) = W1 at B O ⊢
    have B_0 := B.cells 0 _ rfl
    have B_1 := B.cells 1 _ rfl
    have B_f0 := B.free 0 (by simp)
    have B_f1 := B.free 1 (by simp)
    have B_t := B.there
    have hs := fun P cap w hr => SerA2.run_spec P cap L x y n t w hr (by omega)
    have hi := fun P cap w hr hc => SerA3.run_impl P cap L x y n t w hr hc (by omega)
    have hm : (runS L x y n t).l.length ≤ 100 := run_len L x y n t
    have hf := fun (h : runOk L x y n t = true) (ht : t < 100) => one_more h ht
    have ht := fun h : runOk L x y n t = true => (run_told h).2.2.2.1
    unfold SerQ.Row3 at hs hi
    generalize (runS L x y n t).l = M at hs hi hm hf
    generalize (runS L x y n t).p = u at hs hi hf
    generalize (runS L x y n t).q = v at hs hi hf
    generalize runOk L x y n t = q at hs hi hf ht
    have HSP := Lib.hid hs; clear hs
    have HIM := Lib.hid hi; clear hi
    have HF := Lib.hid hf; clear hf
    have HT := Lib.hid ht; clear ht
    have hcp := own_cap O
    have hb1 := B.below.size
    go_wp2_with fail
    refine (HIM.out _ _ _ (Rd.of_own O) hcp).mono ?_
    rintro e v2 ⟨A1, k1, rfl, O1, hv2⟩
    clear B_0 B_1 B_f0 B_f1 B_t
    replace B := B.more hv2
    replace O := own_keep O hv2
    have zhv2 := hv2.size
    clear hv2
    have B_0 := B.cells 0 _ rfl
    have B_1 := B.cells 1 _ rfl
    have B_f0 := B.free 0 (by simp)
    have B_f1 := B.free 1 (by simp)
    have B_t := B.there
    replace O1 := own_base O1 (base' := w.heap.size) hb1
    have hcp1 := own_cap O1
    go_wp2_with fail
    have B_t3 := B.there
    have E := Box.new B.below [.int .i64 u, .int .i64 v] 26 (g := v2.heap.size) rfl
    clear B_0 B_1 B_f0 B_f1 B_t
    replace B := (B).alloc (.cells #[.int .i64 u, .int .i64 v] 26)
    replace O := own_keep O (al (Below.refl _ _) (o := (.cells #[.int .i64 u, .int .i64 v] 26)))
    replace O1 := own_keep O1 (al (Below.refl _ _) (o := (.cells #[.int .i64 u, .int .i64 v] 26)))
    generalize (v2.alloc (.cells #[.int .i64 u, .int .i64 v] 26)) = W3 at E B O O1 ⊢
    have B_0 := B.cells 0 _ rfl
    have B_1 := B.cells 1 _ rfl
    have B_f0 := B.free 0 (by simp)
    have B_f1 := B.free 1 (by simp)
    have B_t := B.there
    have E_0 := E.cells 0 _ rfl
    have E_1 := E.cells 1 _ rfl
    have E_f0 := E.free 0 (by simp)
    have E_f1 := E.free 1 (by simp)
    have E_t := E.there
    have hb2 := B.below.size
    go_wp2_with fail
    refine (HSP.out _ _ _ (Rd.of_own O)).mono ?_
    rintro e v4 ⟨A0, k0, rfl, O0, hv4⟩
    clear B_0 B_1 B_f0 B_f1 B_t
    clear E_0 E_1 E_f0 E_f1 E_t
    replace B := B.more hv4
    replace E := E.more hv4
    replace O := own_keep O hv4
    replace O1 := own_keep O1 hv4
    have zhv4 := hv4.size
    clear hv4
    have B_0 := B.cells 0 _ rfl
    have B_1 := B.cells 1 _ rfl
    have B_f0 := B.free 0 (by simp)
    have B_f1 := B.free 1 (by simp)
    have B_t := B.there
    have E_0 := E.cells 0 _ rfl
    have E_1 := E.cells 1 _ rfl
    have E_f0 := E.free 0 (by simp)
    have E_f1 := E.free 1 (by simp)
    have E_t := E.there
    replace O0 := own_base O0 (base' := w.heap.size) hb2
    go_wp2_with fail
    have B_t5 := B.there
    have E_t5 := E.there
    have F := Box.new B.below [.int .i64 u, .int .i64 v] 26 (g := v4.heap.size) rfl
    clear B_0 B_1 B_f0 B_f1 B_t
    replace B := (B).alloc (.cells #[.int .i64 u, .int .i64 v] 26)
    clear E_0 E_1 E_f0 E_f1 E_t
    replace E := (E).alloc (.cells #[.int .i64 u, .int .i64 v] 26)
    replace O := own_keep O (al (Below.refl _ _) (o := (.cells #[.int .i64 u, .int .i64 v] 26)))
    replace O1 := own_keep O1 (al (Below.refl _ _) (o := (.cells #[.int .i64 u, .int .i64 v] 26)))
    replace O0 := own_keep O0 (al (Below.refl _ _) (o := (.cells #[.int .i64 u, .int .i64 v] 26)))
    generalize (v4.alloc (.cells #[.int .i64 u, .int .i64 v] 26)) = W5 at F B E O O1 O0 ⊢
    have B_0 := B.cells 0 _ rfl
    have B_1 := B.cells 1 _ rfl
    have B_f0 := B.free 0 (by simp)
    have B_f1 := B.free 1 (by simp)
    have B_t := B.there
    have E_0 := E.cells 0 _ rfl
    have E_1 := E.cells 1 _ rfl
    have E_f0 := E.free 0 (by simp)
    have E_f1 := E.free 1 (by simp)
    have E_t := E.there
    have F_0 := F.cells 0 _ rfl
    have F_1 := F.cells 1 _ rfl
    have F_f0 := F.free 0 (by simp)
    have F_f1 := F.free 1 (by simp)
    have F_t := F.there
    go_wp2_with fail
    refine (DSer2.vbasins_any A1 A0 k1 k0 M _ (Rd.of_own O1) (Rd.of_own O0) (by omega)).mono ?_
    rintro e v6 ⟨rfl, hd⟩
    have hd2 := hd.below W5.heap.size; clear hd
    clear B_0 B_1 B_f0 B_f1 B_t
    clear E_0 E_1 E_f0 E_f1 E_t
    clear F_0 F_1 F_f0 F_f1 F_t
    replace B := B.more hd2
    replace E := E.more hd2
    replace F := F.more hd2
    replace O := own_keep O hd2
    replace O1 := own_keep O1 hd2
    replace O0 := own_keep O0 hd2
    clear hd2
    have B_0 := B.cells 0 _ rfl
    have B_1 := B.cells 1 _ rfl
    have B_f0 := B.free 0 (by simp)
    have B_f1 := B.free 1 (by simp)
    have B_t := B.there
    have E_0 := E.cells 0 _ rfl
    have E_1 := E.cells 1 _ rfl
    have E_f0 := E.free 0 (by simp)
    have E_f1 := E.free 1 (by simp)
    have E_t := E.there
    have F_0 := F.cells 0 _ rfl
    have F_1 := F.cells 1 _ rfl
    have F_f0 := F.free 0 (by simp)
    have F_f1 := F.free 1 (by simp)
    have F_t := F.there
    go_upto_region 18 with fail
    go_cut [178] from 49 (fun cnd wc => cnd = .bool (q && decide (t < 100)) ∧ v6 = wc)
    case first => as_aux_lemma =>
      cases q
      · go_wp2
        go_meet
        exact ⟨rfl, rfl⟩
      by_cases ht : t < 100
      · have hlt : decide (t < 100) = true := decide_eq_true ht
        go_wp2
        go_meet
        exact ⟨by simp [ht], rfl⟩
      · have hlt : decide (t < 100) = false := decide_eq_false ht
        go_wp2
        go_meet
        exact ⟨by simp [ht], rfl⟩
    case rest => as_aux_lemma =>
      obtain ⟨hz0, rfl⟩ := hcut
      obtain ⟨z, hz⟩ : ∃ z, (q && decide (t < 100)) = z := ⟨_, rfl⟩
      rw [hz] at hz0
      subst hz0
      have HZ := Lib.hid hz; clear hz
      go_upto_if 178 with fail
      go_cut [] from 3 (fun wc => Below w.heap.size w wc)
      case first => as_aux_lemma =>
        cases z
        · go_wp2
          go_meet
          case rel => exact B.below
        · have hz := HZ.out
          rw [Bool.and_eq_true, decide_eq_true_eq] at hz
          obtain ⟨rfl, ht⟩ := hz
          have ht2 := HT.out rfl
          obtain ⟨f1, f2⟩ := HF.out rfl ht
          have hi1 := fun P cap w hr hc => SerA3.one_impl P cap M u v n w hr hc (by omega)
          have hi2 := fun P cap w hr hc => SerA3.run_impl P cap L x y n (t + 1) w hr hc (by omega)
          have hm2 : (runS L x y n (t + 1)).l.length ≤ 100 := run_len L x y n (t + 1)
          rw [f1, f2] at hi1
          unfold SerQ.Row3 at hi1 hi2
          clear f1 f2
          generalize (runS L x y n (t + 1)).l = N at hi1 hi2 hm2
          generalize (runS L x y n (t + 1)).p = u2 at hi1 hi2
          generalize (runS L x y n (t + 1)).q = v2 at hi1 hi2
          generalize runOk L x y n (t + 1) = q2 at hi1 hi2
          have HI1 := Lib.hid hi1; clear hi1
          have HI2 := Lib.hid hi2; clear hi2
          have y1 : IntKind.i64.wrap (t + 1) = t + 1 := IntWalk.i64_in _ (by omega)
          have hb3 := B.below.size
          go_wp2_with fail
          refine (HI1.out _ _ _ (Rd.of_own O1) hcp1).mono ?_
          rintro e v7 ⟨A2, k2, rfl, O2, hv7⟩
          clear B_0 B_1 B_f0 B_f1 B_t
          clear E_0 E_1 E_f0 E_f1 E_t
          clear F_0 F_1 F_f0 F_f1 F_t
          replace B := B.more hv7
          replace E := E.more hv7
          replace F := F.more hv7
          replace O := own_keep O hv7
          replace O1 := own_keep O1 hv7
          replace O0 := own_keep O0 hv7
          have zhv7 := hv7.size
          clear hv7
          have B_0 := B.cells 0 _ rfl
          have B_1 := B.cells 1 _ rfl
          have B_f0 := B.free 0 (by simp)
          have B_f1 := B.free 1 (by simp)
          have B_t := B.there
          have E_0 := E.cells 0 _ rfl
          have E_1 := E.cells 1 _ rfl
          have E_f0 := E.free 0 (by simp)
          have E_f1 := E.free 1 (by simp)
          have E_t := E.there
          have F_0 := F.cells 0 _ rfl
          have F_1 := F.cells 1 _ rfl
          have F_f0 := F.free 0 (by simp)
          have F_f1 := F.free 1 (by simp)
          have F_t := F.there
          replace O2 := own_base O2 (base' := w.heap.size) hb3
          go_wp2_with fail
          have B_t8 := B.there
          have E_t8 := E.there
          have F_t8 := F.there
          have G := Box.new B.below [.int .i64 u2, .int .i64 v2] 26 (g := v7.heap.size) rfl
          clear B_0 B_1 B_f0 B_f1 B_t
          replace B := (B).alloc (.cells #[.int .i64 u2, .int .i64 v2] 26)
          clear E_0 E_1 E_f0 E_f1 E_t
          replace E := (E).alloc (.cells #[.int .i64 u2, .int .i64 v2] 26)
          clear F_0 F_1 F_f0 F_f1 F_t
          replace F := (F).alloc (.cells #[.int .i64 u2, .int .i64 v2] 26)
          replace O := own_keep O (al (Below.refl _ _) (o := (.cells #[.int .i64 u2, .int .i64 v2] 26)))
          replace O1 := own_keep O1 (al (Below.refl _ _) (o := (.cells #[.int .i64 u2, .int .i64 v2] 26)))
          replace O0 := own_keep O0 (al (Below.refl _ _) (o := (.cells #[.int .i64 u2, .int .i64 v2] 26)))
          replace O2 := own_keep O2 (al (Below.refl _ _) (o := (.cells #[.int .i64 u2, .int .i64 v2] 26)))
          generalize (v7.alloc (.cells #[.int .i64 u2, .int .i64 v2] 26)) = W8 at G B E F O O1 O0 O2 ⊢
          have B_0 := B.cells 0 _ rfl
          have B_1 := B.cells 1 _ rfl
          have B_f0 := B.free 0 (by simp)
          have B_f1 := B.free 1 (by simp)
          have B_t := B.there
          have E_0 := E.cells 0 _ rfl
          have E_1 := E.cells 1 _ rfl
          have E_f0 := E.free 0 (by simp)
          have E_f1 := E.free 1 (by simp)
          have E_t := E.there
          have F_0 := F.cells 0 _ rfl
          have F_1 := F.cells 1 _ rfl
          have F_f0 := F.free 0 (by simp)
          have F_f1 := F.free 1 (by simp)
          have F_t := F.there
          have G_0 := G.cells 0 _ rfl
          have G_1 := G.cells 1 _ rfl
          have G_f0 := G.free 0 (by simp)
          have G_f1 := G.free 1 (by simp)
          have G_t := G.there
          have hb4 := B.below.size
          go_wp2_with fail
          refine (HI2.out _ _ _ (Rd.of_own O) hcp).mono ?_
          rintro e v9 ⟨A3, k3, rfl, O3, hv9⟩
          clear B_0 B_1 B_f0 B_f1 B_t
          clear E_0 E_1 E_f0 E_f1 E_t
          clear F_0 F_1 F_f0 F_f1 F_t
          clear G_0 G_1 G_f0 G_f1 G_t
          replace B := B.more hv9
          replace E := E.more hv9
          replace F := F.more hv9
          replace G := G.more hv9
          replace O := own_keep O hv9
          replace O1 := own_keep O1 hv9
          replace O0 := own_keep O0 hv9
          replace O2 := own_keep O2 hv9
          have zhv9 := hv9.size
          clear hv9
          have B_0 := B.cells 0 _ rfl
          have B_1 := B.cells 1 _ rfl
          have B_f0 := B.free 0 (by simp)
          have B_f1 := B.free 1 (by simp)
          have B_t := B.there
          have E_0 := E.cells 0 _ rfl
          have E_1 := E.cells 1 _ rfl
          have E_f0 := E.free 0 (by simp)
          have E_f1 := E.free 1 (by simp)
          have E_t := E.there
          have F_0 := F.cells 0 _ rfl
          have F_1 := F.cells 1 _ rfl
          have F_f0 := F.free 0 (by simp)
          have F_f1 := F.free 1 (by simp)
          have F_t := F.there
          have G_0 := G.cells 0 _ rfl
          have G_1 := G.cells 1 _ rfl
          have G_f0 := G.free 0 (by simp)
          have G_f1 := G.free 1 (by simp)
          have G_t := G.there
          replace O3 := own_base O3 (base' := w.heap.size) hb4
          go_wp2_with fail
          have B_t10 := B.there
          have E_t10 := E.there
          have F_t10 := F.there
          have G_t10 := G.there
          have H := Box.new B.below [.int .i64 u2, .int .i64 v2] 26 (g := v9.heap.size) rfl
          clear B_0 B_1 B_f0 B_f1 B_t
          replace B := (B).alloc (.cells #[.int .i64 u2, .int .i64 v2] 26)
          clear E_0 E_1 E_f0 E_f1 E_t
          replace E := (E).alloc (.cells #[.int .i64 u2, .int .i64 v2] 26)
          clear F_0 F_1 F_f0 F_f1 F_t
          replace F := (F).alloc (.cells #[.int .i64 u2, .int .i64 v2] 26)
          clear G_0 G_1 G_f0 G_f1 G_t
          replace G := (G).alloc (.cells #[.int .i64 u2, .int .i64 v2] 26)
          replace O := own_keep O (al (Below.refl _ _) (o := (.cells #[.int .i64 u2, .int .i64 v2] 26)))
          replace O1 := own_keep O1 (al (Below.refl _ _) (o := (.cells #[.int .i64 u2, .int .i64 v2] 26)))
          replace O0 := own_keep O0 (al (Below.refl _ _) (o := (.cells #[.int .i64 u2, .int .i64 v2] 26)))
          replace O2 := own_keep O2 (al (Below.refl _ _) (o := (.cells #[.int .i64 u2, .int .i64 v2] 26)))
          replace O3 := own_keep O3 (al (Below.refl _ _) (o := (.cells #[.int .i64 u2, .int .i64 v2] 26)))
          generalize (v9.alloc (.cells #[.int .i64 u2, .int .i64 v2] 26)) = W10 at H B E F G O O1 O0 O2 O3 ⊢
          have B_0 := B.cells 0 _ rfl
          have B_1 := B.cells 1 _ rfl
          have B_f0 := B.free 0 (by simp)
          have B_f1 := B.free 1 (by simp)
          have B_t := B.there
          have E_0 := E.cells 0 _ rfl
          have E_1 := E.cells 1 _ rfl
          have E_f0 := E.free 0 (by simp)
          have E_f1 := E.free 1 (by simp)
          have E_t := E.there
          have F_0 := F.cells 0 _ rfl
          have F_1 := F.cells 1 _ rfl
          have F_f0 := F.free 0 (by simp)
          have F_f1 := F.free 1 (by simp)
          have F_t := F.there
          have G_0 := G.cells 0 _ rfl
          have G_1 := G.cells 1 _ rfl
          have G_f0 := G.free 0 (by simp)
          have G_f1 := G.free 1 (by simp)
          have G_t := G.there
          have H_0 := H.cells 0 _ rfl
          have H_1 := H.cells 1 _ rfl
          have H_f0 := H.free 0 (by simp)
          have H_f1 := H.free 1 (by simp)
          have H_t := H.there
          go_wp2_with fail
          refine (DSer2.vbasins_any A2 A3 k2 k3 N _ (Rd.of_own O2) (Rd.of_own O3) (by omega)).mono ?_
          rintro e v11 ⟨rfl, hd⟩
          go_wp2
          go_meet
          case rel => exact be B.below (hd.below _)
      case rest => as_aux_lemma =>
        go_wp2_with fail
        refine (DSer3.drawPte A cap zs wc (HC.out.below hcut)).mono ?_
        rintro e w2 ⟨L, g, c, n, hl, rfl, O, hB⟩
        have HB := be hcut hB
        replace O := own_base O (base' := w.heap.size) hcut.size
        clear hB hcut
        obtain ⟨x, q, hv⟩ := SerE.pte_form L n
        have HVV := Lib.hid hv; clear hv
        have hcp := own_cap O
        go_wp2_with fail
        refine (SerE.pte_impl _ c L n _ (Rd.of_own O) hcp (by omega)).mono ?_
        rintro e v1 ⟨rfl, hv1⟩
        replace O := own_keep O hv1
        replace HB := be HB hv1
        have zhv1 := hv1.size
        rw [HVV.out]
        go_wp2_with fail
        refine (SerE.pte_spec _ c L n _ (Rd.of_own O) (by omega)).mono ?_
        rintro e v2 ⟨rfl, hv2⟩
        replace O := own_keep O hv2
        replace HB := be HB hv2
        have zhv2 := hv2.size
        rw [HVV.out]
        go_wp2_with fail
        refine (DSer3.drawFill A cap zs _ (HC.out.below HB)).mono ?_
        rintro e w3 ⟨L, g, c, x, y, hl, rfl, O, hB⟩
        have HB0 := be HB hB
        replace O := own_base O (base' := w.heap.size) HB.size
        clear hB HB
        go_wp2_with fail
        have B := Box.new HB0 [.int .i64 x, .int .i64 y] 26 (g := w3.heap.size) rfl
        replace O := own_keep O (al (Below.refl _ _) (o := (.cells #[.int .i64 x, .int .i64 y] 26)))
        generalize (w3.alloc (.cells #[.int .i64 x, .int .i64 y] 26)) = W1 at B O ⊢
        have B_0 := B.cells 0 _ rfl
        have B_1 := B.cells 1 _ rfl
        have B_f0 := B.free 0 (by simp)
        have B_f1 := B.free 1 (by simp)
        have B_t := B.there
        have hs := fun P cap w hr => SerF.fill_spec P cap L x y w hr (by omega)
        have hi := fun P cap w hr hc => SerF.fill_impl P cap L x y w hr hc (by omega)
        have hm : (fillL L x y).length ≤ 100 := fill_len L x y
        unfold SerQ.Row1 at hs hi
        generalize fillL L x y = M at hs hi hm
        generalize fillOk L x y = q at hs hi
        have HSP := Lib.hid hs; clear hs
        have HIM := Lib.hid hi; clear hi
        have hcp := own_cap O
        have hb1 := B.below.size
        go_wp2_with fail
        refine (HIM.out _ _ _ (Rd.of_own O) hcp).mono ?_
        rintro e v2 ⟨A1, k1, rfl, O1, hv2⟩
        clear B_0 B_1 B_f0 B_f1 B_t
        replace B := B.more hv2
        replace O := own_keep O hv2
        have zhv2 := hv2.size
        clear hv2
        have B_0 := B.cells 0 _ rfl
        have B_1 := B.cells 1 _ rfl
        have B_f0 := B.free 0 (by simp)
        have B_f1 := B.free 1 (by simp)
        have B_t := B.there
        replace O1 := own_base O1 (base' := w.heap.size) hb1
        have hb2 := B.below.size
        go_wp2_with fail
        refine (HSP.out _ _ _ (Rd.of_own O)).mono ?_
        rintro e v3 ⟨A0, k0, rfl, O0, hv3⟩
        clear B_0 B_1 B_f0 B_f1 B_t
        replace B := B.more hv3
        replace O := own_keep O hv3
        replace O1 := own_keep O1 hv3
        have zhv3 := hv3.size
        clear hv3
        have B_0 := B.cells 0 _ rfl
        have B_1 := B.cells 1 _ rfl
        have B_f0 := B.free 0 (by simp)
        have B_f1 := B.free 1 (by simp)
        have B_t := B.there
        replace O0 := own_base O0 (base' := w.heap.size) hb2
        go_wp2_with fail
        refine (DSer2.vbasins_any A1 A0 k1 k0 M _ (Rd.of_own O1) (Rd.of_own O0) (by omega)).mono ?_
        rintro e v4 ⟨rfl, hd⟩
        have hd2 := hd.below v3.heap.size; clear hd
        clear B_0 B_1 B_f0 B_f1 B_t
        replace B := B.more hd2
        replace O := own_keep O hd2
        replace O1 := own_keep O1 hd2
        replace O0 := own_keep O0 hd2
        clear hd2
        have B_0 := B.cells 0 _ rfl
        have B_1 := B.cells 1 _ rfl
        have B_f0 := B.free 0 (by simp)
        have B_f1 := B.free 1 (by simp)
        have B_t := B.there
        go_wp2_with fail
        refine (DSer2.drawSum A cap zs _ (HC.out.below B.below)).mono ?_
        rintro e v5 ⟨L2, g2, c2, hl2, rfl, O2, hv5⟩
        clear B_0 B_1 B_f0 B_f1 B_t
        replace B := B.more hv5
        replace O := own_keep O hv5
        replace O1 := own_keep O1 hv5
        replace O0 := own_keep O0 hv5
        have zhv5 := hv5.size
        clear hv5
        have B_0 := B.cells 0 _ rfl
        have B_1 := B.cells 1 _ rfl
        have B_f0 := B.free 0 (by simp)
        have B_f1 := B.free 1 (by simp)
        have B_t := B.there
        clear O
        clear O1
        clear O0
        have hcp2 := own_cap O2
        obtain ⟨a1, a2, qa, hv⟩ := sum_form L2
        have HVV := Lib.hid hv; clear hv
        go_wp2_with fail
        refine (SerS.sum_impl _ c2 L2 _ (Rd.of_own O2) hcp2 (by omega)).mono ?_
        rintro e v6 ⟨rfl, hv6⟩
        clear B_0 B_1 B_f0 B_f1 B_t
        replace B := B.more hv6
        replace O2 := own_keep O2 hv6
        have zhv6 := hv6.size
        clear hv6
        have B_0 := B.cells 0 _ rfl
        have B_1 := B.cells 1 _ rfl
        have B_f0 := B.free 0 (by simp)
        have B_f1 := B.free 1 (by simp)
        have B_t := B.there
        rw [HVV.out]
        unfold Brine.br
        go_wp2_with fail
        have B_t7 := B.there
        have E := Box.new B.below [.int .i64 a1, .int .i64 a2] 26 (g := v6.heap.size) rfl
        clear B_0 B_1 B_f0 B_f1 B_t
        replace B := (B).alloc (.cells #[.int .i64 a1, .int .i64 a2] 26)
        replace O2 := own_keep O2 (al (Below.refl _ _) (o := (.cells #[.int .i64 a1, .int .i64 a2] 26)))
        generalize (v6.alloc (.cells #[.int .i64 a1, .int .i64 a2] 26)) = W7 at E B O2 ⊢
        have B_0 := B.cells 0 _ rfl
        have B_1 := B.cells 1 _ rfl
        have B_f0 := B.free 0 (by simp)
        have B_f1 := B.free 1 (by simp)
        have B_t := B.there
        have E_0 := E.cells 0 _ rfl
        have E_1 := E.cells 1 _ rfl
        have E_f0 := E.free 0 (by simp)
        have E_f1 := E.free 1 (by simp)
        have E_t := E.there
        go_wp2_with fail
        refine (SerS.sum_spec _ c2 L2 _ (Rd.of_own O2) (by omega)).mono ?_
        rintro e v8 ⟨rfl, hv8⟩
        clear B_0 B_1 B_f0 B_f1 B_t
        clear E_0 E_1 E_f0 E_f1 E_t
        replace B := B.more hv8
        replace E := E.more hv8
        replace O2 := own_keep O2 hv8
        have zhv8 := hv8.size
        clear hv8
        have B_0 := B.cells 0 _ rfl
        have B_1 := B.cells 1 _ rfl
        have B_f0 := B.free 0 (by simp)
        have B_f1 := B.free 1 (by simp)
        have B_t := B.there
        have E_0 := E.cells 0 _ rfl
        have E_1 := E.cells 1 _ rfl
        have E_f0 := E.free 0 (by simp)
        have E_f1 := E.free 1 (by simp)
        have E_t := E.there
        rw [HVV.out]
        unfold Brine.br
        go_wp2_with fail
        have B_t9 := B.there
        have E_t9 := E.there
        have F := Box.new B.below [.int .i64 a1, .int .i64 a2] 26 (g := v8.heap.size) rfl
        clear B_0 B_1 B_f0 B_f1 B_t
        replace B := (B).alloc (.cells #[.int .i64 a1, .int .i64 a2] 26)
        clear E_0 E_1 E_f0 E_f1 E_t
        replace E := (E).alloc (.cells #[.int .i64 a1, .int .i64 a2] 26)
        replace O2 := own_keep O2 (al (Below.refl _ _) (o := (.cells #[.int .i64 a1, .int .i64 a2] 26)))
        generalize (v8.alloc (.cells #[.int .i64 a1, .int .i64 a2] 26)) = W9 at F B E O2 ⊢
        have B_0 := B.cells 0 _ rfl
        have B_1 := B.cells 1 _ rfl
        have B_f0 := B.free 0 (by simp)
        have B_f1 := B.free 1 (by simp)
        have B_t := B.there
        have E_0 := E.cells 0 _ rfl
        have E_1 := E.cells 1 _ rfl
        have E_f0 := E.free 0 (by simp)
        have E_f1 := E.free 1 (by simp)
        have E_t := E.there
        have F_0 := F.cells 0 _ rfl
        have F_1 := F.cells 1 _ rfl
        have F_f0 := F.free 0 (by simp)
        have F_f1 := F.free 1 (by simp)
        have F_t := F.there
        go_wp2
        go_ret
        exact ⟨rfl, B.below⟩
end Go.Proofs.Ytciohcipmkhneaa.SeriesLaw
