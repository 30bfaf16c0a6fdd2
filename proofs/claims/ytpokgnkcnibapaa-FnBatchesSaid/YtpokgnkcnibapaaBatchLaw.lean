/- FnBatches, walked. Made by tools/mk_batchlaw.py. -/
import Derived.Deep.Cut
import Derived.Deep.CutBlock
import Derived.Deep.CutRange
import Derived.Deep.DeepCutAuto
import Derived.Test.YtpokgnkcnibapaaBatFacts
import Derived.Test.YtpokgnkcnibapaaBatX
import Derived.Test.YtpokgnkcnibapaaDBat4
namespace Go.Proofs.Ytpokgnkcnibapaa.BatchLaw
open Go.RowKit Go.Proofs.Ytpokgnkcnibapaa.Mem Go.Proofs.Ytpokgnkcnibapaa.Base Go.Proofs.Ytpokgnkcnibapaa.Within Go.Proofs.Ytpokgnkcnibapaa.SBatch Go.Proofs.Ytpokgnkcnibapaa.Regn Go.Proofs.Ytpokgnkcnibapaa.Boxes Go.Proofs.Ytpokgnkcnibapaa.Keep Go.Proofs.Ytpokgnkcnibapaa.BatP Go.Proofs.Ytpokgnkcnibapaa.BatQ Go.Proofs.Ytpokgnkcnibapaa.BatFacts
set_option linter.unusedVariables false
set_option linter.unusedSimpArgs false
set_option maxRecDepth 100000
abbrev Yes (w : World) (e : Ending) (w' : World) : Prop := e = .returned (.bool true) ∧ Below w.heap.size w w'
theorem bne_b (q : Bool) : (q != q) = false := by cases q <;> rfl
theorem beq_b (q : Bool) : (q == q) = true := by cases q <;> rfl
set_option maxHeartbeats 8000000 in
theorem law (A : Option Addr) (cap : Nat) (zs : List Int) (w : World) (hr : Rd w w.heap.size A (zs.map (Value.int .u8))) (hn : zs.length ≤ maxLen) (hb : ∀ z ∈ zs, 0 ≤ z ∧ z ≤ 255) :
    Calls Try.prog 4 #[.slice A zs.length cap] w (Yes w) := by
  by_cases hbig : 65536 < zs.length
  · have HG := Lib.hid (show Draw.bigB zs.length = true from decide_eq_true hbig)
    clear hr hb
    go_enter Try.func4, Try.ntmps4
    go_wp2_with fail
    refine (Draw.big_any A cap zs.length w hn).mono ?_
    rintro e w' ⟨rfl, rfl⟩
    rw [HG.out]
    go_wp2
    go_ret
    exact ⟨rfl, Below.refl _ _⟩
  have HG := Lib.hid (show Draw.bigB zs.length = false from decide_eq_false hbig)
  have HN := Lib.hid hn; clear hn
  have HC := Lib.hid (show Draw.Src w A zs from ⟨hr, by omega, hb⟩); clear hr hb
  go_enter Try.func4, Try.ntmps4
  go_wp2_with fail
  refine (Draw.big_any A cap zs.length w HN.out).mono ?_
  rintro e w' ⟨rfl, rfl⟩
  rw [HG.out]
  clear HG hbig HN
  go_wp2_with fail
  refine (DBat4.drawCC A cap zs w HC.out).mono ?_
  rintro e w1 ⟨L, g, c, v, hl, rfl, O, HB⟩
  have hcp := own_cap O
  have hs := fun P cap w hr => BatX.cc_spec P cap L v w hr (by omega)
  have hi := fun P cap w hr hc => BatX.cc_impl P cap L v w hr hc (by omega)
  have hm : (ccL L v).length ≤ 100 := ccL_len L v
  have hk := fun h : ccOk L v = true => cc_told L v h
  unfold BatC.Row2 at hs hi
  generalize ccL L v = M at hs hi hm hk
  generalize ccN L v = y at hs hi hk
  generalize ccOk L v = q at hs hi hk
  have HSP := Lib.hid hs; clear hs
  have HIM := Lib.hid hi; clear hi
  have HK := Lib.hid hk; clear hk
  have hb1 := HB.size
  go_wp2_with fail
  refine (HIM.out _ _ _ (Rd.of_own O) hcp).mono ?_
  rintro e v1 ⟨A1, k1, rfl, O1, hv1⟩
  replace O := own_keep O hv1
  replace HB := be HB hv1
  have zhv1 := hv1.size
  replace O1 := own_base O1 (base' := w.heap.size) hb1
  have hb2 := HB.size
  go_wp2_with fail
  refine (HSP.out _ _ _ (Rd.of_own O)).mono ?_
  rintro e v2 ⟨A0, k0, rfl, O0, hv2⟩
  replace O := own_keep O hv2
  replace HB := be HB hv2
  replace O1 := own_keep O1 hv2
  have zhv2 := hv2.size
  replace O0 := own_base O0 (base' := w.heap.size) hb2
  have b1 := bne_b q
  go_wp2_with fail
  refine (DBat4.vbatches_any A1 A0 k1 k0 M _ (Rd.of_own O1) (Rd.of_own O0) (by omega)).mono ?_
  rintro e v3 ⟨rfl, hd⟩
  have hd2 := hd.below v2.heap.size; clear hd
  replace O := own_keep O hd2
  replace HB := be HB hd2
  replace O1 := own_keep O1 hd2
  replace O0 := own_keep O0 hd2
  clear O0 HSP HIM b1
  go_upto_if 70 with fail
  go_cut [11, 12, 13] from 35 (fun s11 s12 s13 wc => Below w.heap.size w wc)
  case first => as_aux_lemma =>
    cases q
    · go_wp2
      go_meet
      case rel => exact HB
    · obtain ⟨l1, l10, hml, ho, hom, y0, y1, v1, hsum⟩ := HK.out rfl
      have HO1 := Lib.hid (dk_bd ho)
      have HO2 := Lib.hid (dk_bd hom)
      have HML := Lib.hid hml
      have HOK := Lib.hid ho
      have HOM := Lib.hid hom
      have HSUM := Lib.hid hsum
      obtain ⟨g1, hA⟩ : ∃ g1 : Nat, A1 = some ⟨g1, 0, none⟩ := let ⟨g1, _, h, _⟩ := own_some O1 (by omega); ⟨g1, h⟩
      subst hA
      clear hml ho hom hsum HK
      go_wp2_with fail
      go_loopw [11, 12, 13] (fun s a i wr => ∃ (k : Nat) (p r : Int), k ≤ L.length ∧ i = .int .i64 k ∧ s = .int .i64 p ∧ a = .int .i64 r ∧ Hid (p = dk L k) ∧ Hid (r = y + dk M k) ∧ wr.ownsRow (w.heap.size) 25 3 (.slice (some ⟨g, 0, none⟩) L.length c) L.length (flat L) ∧ wr.ownsRow (w.heap.size) 25 3 (.slice (some ⟨g1, 0, none⟩) M.length k1) M.length (flat M) ∧ Below w.heap.size w wr) (fun _ _ i _ => L.length - (intOf i).toNat)
      case atStart => exact ⟨0, 0, y, Nat.zero_le _, rfl, rfl, rfl, Lib.hid (dk_zero L).symm, Lib.hid (by rw [dk_zero]; omega), O, O1, HB⟩
      case round =>
        clear O O1 HB
        obtain ⟨k, p, r, hk, rfl, rfl, rfl, HP, HR, O, O1, HB⟩ := hrel
        have e3 : IntKind.i64.wrap ((k : Int) + 1) = k + 1 := IntWalk.i64_in _ (by omega)
        by_cases hlt : k < L.length
        · have hlm : k < M.length := by have := HML.out; omega
          have hd1 : decide ((k : Int) < L.length) = true := decide_eq_true (by omega)
          have hd2 : decide ((k : Int) < M.length) = true := decide_eq_true (by omega)
          obtain ⟨x, hx⟩ : ∃ x, L[k] = x := ⟨_, rfl⟩
          obtain ⟨u, hu⟩ : ∃ u, M[k] = u := ⟨_, rfl⟩
          have h1 : wr.cell? ⟨g, k * 3 + 1, none⟩ = some (.int .i64 x.f1) := by rw [O.cellAt _ (by omega), ← hx]; exact flat_1 L k hlt
          have h2 : wr.cell? ⟨g1, k * 3 + 1, none⟩ = some (.int .i64 u.f1) := by rw [O1.cellAt _ (by omega), ← hu]; exact flat_1 M k hlm
          have HP2 := Lib.hid (show p + x.f1 = dk L (k + 1) by rw [dk_next hlt hx, HP.out])
          have HR2 := Lib.hid (show r + u.f1 = y + dk M (k + 1) by rw [dk_next hlm hu, HR.out]; omega)
          have bd1 := HO1.out (k + 1) (by omega)
          have bd2 := HO2.out (k + 1) (by omega)
          rw [← HP2.out] at bd1
          have y2 : IntKind.i64.wrap (p + x.f1) = p + x.f1 := IntWalk.i64_in _ (by omega)
          have y3 : IntKind.i64.wrap (r + u.f1) = r + u.f1 := IntWalk.i64_in _ (by have := HR2.out; omega)
          have HL := Lib.hid hlt
          clear bd1 bd2 hx hu
          go_wp2
          go_roundw
          case rel => exact ⟨k + 1, p + x.f1, r + u.f1, HL.out, by go_num, rfl, rfl, HP2, HR2, O, O1, HB⟩
          case measure => have := HL.out; simp [intOf]; omega
        · have hd1 : decide ((k : Int) < L.length) = false := decide_eq_false (by omega)
          have hpr : (p != r) = false := by
            rw [bne_eq_false_iff_eq, HP.out, HR.out, dk_all L (by omega), dk_all M (by have := HML.out; omega)]
            have := HSUM.out; omega
          have hyv : decide (v < y) = false := decide_eq_false (by omega)
          go_wp2
          go_meet
          case rel => exact HB
  case rest => as_aux_lemma =>
    clear HB O O1 HK
    have HB := hcut
    clear hcut
    go_wp2_with fail
    refine (DBat2.drawJoin A cap zs wc (HC.out.below HB)).mono ?_
    rintro e w2 ⟨a, b, rfl, hB2⟩
    replace HB := be HB hB2
    clear hB2
    obtain ⟨z, q, hv⟩ := join_told a b
    have HV := Lib.hid hv; clear hv
    have b2 := bne_b q
    go_upto_region 18 with fail
    have X := (Box.new HB [.int .i64 a.f0, .int .i64 a.f1, .int .i64 a.f2] 25 (g := w2.heap.size) rfl).alloc (.cells #[.int .i64 b.f0, .int .i64 b.f1, .int .i64 b.f2] 25)
    have X2 := Box.new (al HB (o := (.cells #[.int .i64 a.f0, .int .i64 a.f1, .int .i64 a.f2] 25))) [.int .i64 b.f0, .int .i64 b.f1, .int .i64 b.f2] 25 (g := w2.heap.size + 1) (by simp only [size_alloc'])
    replace HB := be HB (al (al (Below.refl _ _) (o := (.cells #[.int .i64 a.f0, .int .i64 a.f1, .int .i64 a.f2] 25))) (o := (.cells #[.int .i64 b.f0, .int .i64 b.f1, .int .i64 b.f2] 25)))
    generalize ((w2.alloc (.cells #[.int .i64 a.f0, .int .i64 a.f1, .int .i64 a.f2] 25)).alloc (.cells #[.int .i64 b.f0, .int .i64 b.f1, .int .i64 b.f2] 25)) = W1 at X X2 HB ⊢
    have X_0 := X.cells 0 _ rfl
    have X_1 := X.cells 1 _ rfl
    have X_2 := X.cells 2 _ rfl
    have X_f0 := X.free 0 (by simp)
    have X_f1 := X.free 1 (by simp)
    have X_f2 := X.free 2 (by simp)
    have X_t := X.there
    have X2_0 := X2.cells 0 _ rfl
    have X2_1 := X2.cells 1 _ rfl
    have X2_2 := X2.cells 2 _ rfl
    have X2_f0 := X2.free 0 (by simp)
    have X2_f1 := X2.free 1 (by simp)
    have X2_f2 := X2.free 2 (by simp)
    have X2_t := X2.there
    go_wp2_with fail
    refine (BatU.join_impl a b _).mono ?_
    rintro e v2 ⟨rfl, hv2⟩
    clear X_0 X_1 X_2 X_f0 X_f1 X_f2 X_t
    clear X2_0 X2_1 X2_2 X2_f0 X2_f1 X2_f2 X2_t
    replace X := X.more hv2
    replace X2 := X2.more hv2
    replace HB := be HB hv2
    have zhv2 := hv2.size
    clear hv2
    have X_0 := X.cells 0 _ rfl
    have X_1 := X.cells 1 _ rfl
    have X_2 := X.cells 2 _ rfl
    have X_f0 := X.free 0 (by simp)
    have X_f1 := X.free 1 (by simp)
    have X_f2 := X.free 2 (by simp)
    have X_t := X.there
    have X2_0 := X2.cells 0 _ rfl
    have X2_1 := X2.cells 1 _ rfl
    have X2_2 := X2.cells 2 _ rfl
    have X2_f0 := X2.free 0 (by simp)
    have X2_f1 := X2.free 1 (by simp)
    have X2_f2 := X2.free 2 (by simp)
    have X2_t := X2.there
    rw [HV.out]
    unfold SBatch.R.val
    go_wp2_with fail
    have X_t3 := X.there
    have X2_t3 := X2.there
    have O := Box.new X.below [.int .i64 z.f0, .int .i64 z.f1, .int .i64 z.f2] 25 (g := v2.heap.size) rfl
    clear X_0 X_1 X_2 X_f0 X_f1 X_f2 X_t
    replace X := (X).alloc (.cells #[.int .i64 z.f0, .int .i64 z.f1, .int .i64 z.f2] 25)
    clear X2_0 X2_1 X2_2 X2_f0 X2_f1 X2_f2 X2_t
    replace X2 := (X2).alloc (.cells #[.int .i64 z.f0, .int .i64 z.f1, .int .i64 z.f2] 25)
    replace HB := be HB (al (Below.refl _ _) (o := (.cells #[.int .i64 z.f0, .int .i64 z.f1, .int .i64 z.f2] 25)))
    generalize (v2.alloc (.cells #[.int .i64 z.f0, .int .i64 z.f1, .int .i64 z.f2] 25)) = W3 at O X X2 HB ⊢
    have X_0 := X.cells 0 _ rfl
    have X_1 := X.cells 1 _ rfl
    have X_2 := X.cells 2 _ rfl
    have X_f0 := X.free 0 (by simp)
    have X_f1 := X.free 1 (by simp)
    have X_f2 := X.free 2 (by simp)
    have X_t := X.there
    have X2_0 := X2.cells 0 _ rfl
    have X2_1 := X2.cells 1 _ rfl
    have X2_2 := X2.cells 2 _ rfl
    have X2_f0 := X2.free 0 (by simp)
    have X2_f1 := X2.free 1 (by simp)
    have X2_f2 := X2.free 2 (by simp)
    have X2_t := X2.there
    have O_0 := O.cells 0 _ rfl
    have O_1 := O.cells 1 _ rfl
    have O_2 := O.cells 2 _ rfl
    have O_f0 := O.free 0 (by simp)
    have O_f1 := O.free 1 (by simp)
    have O_f2 := O.free 2 (by simp)
    have O_t := O.there
    go_wp2_with fail
    refine (BatU.join_spec a b _).mono ?_
    rintro e v4 ⟨rfl, hv4⟩
    clear X_0 X_1 X_2 X_f0 X_f1 X_f2 X_t
    clear X2_0 X2_1 X2_2 X2_f0 X2_f1 X2_f2 X2_t
    clear O_0 O_1 O_2 O_f0 O_f1 O_f2 O_t
    replace X := X.more hv4
    replace X2 := X2.more hv4
    replace O := O.more hv4
    replace HB := be HB hv4
    have zhv4 := hv4.size
    clear hv4
    have X_0 := X.cells 0 _ rfl
    have X_1 := X.cells 1 _ rfl
    have X_2 := X.cells 2 _ rfl
    have X_f0 := X.free 0 (by simp)
    have X_f1 := X.free 1 (by simp)
    have X_f2 := X.free 2 (by simp)
    have X_t := X.there
    have X2_0 := X2.cells 0 _ rfl
    have X2_1 := X2.cells 1 _ rfl
    have X2_2 := X2.cells 2 _ rfl
    have X2_f0 := X2.free 0 (by simp)
    have X2_f1 := X2.free 1 (by simp)
    have X2_f2 := X2.free 2 (by simp)
    have X2_t := X2.there
    have O_0 := O.cells 0 _ rfl
    have O_1 := O.cells 1 _ rfl
    have O_2 := O.cells 2 _ rfl
    have O_f0 := O.free 0 (by simp)
    have O_f1 := O.free 1 (by simp)
    have O_f2 := O.free 2 (by simp)
    have O_t := O.there
    rw [HV.out]
    unfold SBatch.R.val
    go_upto_region 20 with fail
    have X_t5 := X.there
    have X2_t5 := X2.there
    have O_t5 := O.there
    have Y := Box.new X.below [.int .i64 z.f0, .int .i64 z.f1, .int .i64 z.f2] 25 (g := v4.heap.size) rfl
    clear X_0 X_1 X_2 X_f0 X_f1 X_f2 X_t
    replace X := (X).alloc (.cells #[.int .i64 z.f0, .int .i64 z.f1, .int .i64 z.f2] 25)
    clear X2_0 X2_1 X2_2 X2_f0 X2_f1 X2_f2 X2_t
    replace X2 := (X2).alloc (.cells #[.int .i64 z.f0, .int .i64 z.f1, .int .i64 z.f2] 25)
    clear O_0 O_1 O_2 O_f0 O_f1 O_f2 O_t
    replace O := (O).alloc (.cells #[.int .i64 z.f0, .int .i64 z.f1, .int .i64 z.f2] 25)
    replace HB := be HB (al (Below.refl _ _) (o := (.cells #[.int .i64 z.f0, .int .i64 z.f1, .int .i64 z.f2] 25)))
    generalize (v4.alloc (.cells #[.int .i64 z.f0, .int .i64 z.f1, .int .i64 z.f2] 25)) = W5 at Y X X2 O HB ⊢
    have X_0 := X.cells 0 _ rfl
    have X_1 := X.cells 1 _ rfl
    have X_2 := X.cells 2 _ rfl
    have X_f0 := X.free 0 (by simp)
    have X_f1 := X.free 1 (by simp)
    have X_f2 := X.free 2 (by simp)
    have X_t := X.there
    have X2_0 := X2.cells 0 _ rfl
    have X2_1 := X2.cells 1 _ rfl
    have X2_2 := X2.cells 2 _ rfl
    have X2_f0 := X2.free 0 (by simp)
    have X2_f1 := X2.free 1 (by simp)
    have X2_f2 := X2.free 2 (by simp)
    have X2_t := X2.there
    have O_0 := O.cells 0 _ rfl
    have O_1 := O.cells 1 _ rfl
    have O_2 := O.cells 2 _ rfl
    have O_f0 := O.free 0 (by simp)
    have O_f1 := O.free 1 (by simp)
    have O_f2 := O.free 2 (by simp)
    have O_t := O.there
    have Y_0 := Y.cells 0 _ rfl
    have Y_1 := Y.cells 1 _ rfl
    have Y_2 := Y.cells 2 _ rfl
    have Y_f0 := Y.free 0 (by simp)
    have Y_f1 := Y.free 1 (by simp)
    have Y_f2 := Y.free 2 (by simp)
    have Y_t := Y.there
    go_upto_region 22 with fail
    have HB0 := Lib.hid X.below
    clear HV HB b2
    clear X_0 X_1 X_2 X_f0 X_f1 X_f2 X_t
    clear X2_0 X2_1 X2_2 X2_f0 X2_f1 X2_f2 X2_t
    clear O_0 O_1 O_2 O_f0 O_f1 O_f2 O_t
    clear Y_0 Y_1 Y_2 Y_f0 Y_f1 Y_f2 Y_t
    clear X X2 O Y
    have HB := HB0.out
    clear HB0
    go_wp2_with fail
    refine (DBat2.drawDry A cap zs _ (HC.out.below HB)).mono ?_
    rintro e w3 ⟨x, d, rfl, hB3⟩
    replace HB := be HB hB3
    clear hB3
    obtain ⟨z, n, q, hv, hk⟩ := dry_told x d
    have HV := Lib.hid hv; clear hv
    have HK := Lib.hid hk; clear hk
    have b3 := bne_b q
    go_wp2_with fail
    have X := Box.new HB [.int .i64 x.f0, .int .i64 x.f1, .int .i64 x.f2] 25 (g := w3.heap.size) rfl
    replace HB := be HB (al (Below.refl _ _) (o := (.cells #[.int .i64 x.f0, .int .i64 x.f1, .int .i64 x.f2] 25)))
    generalize (w3.alloc (.cells #[.int .i64 x.f0, .int .i64 x.f1, .int .i64 x.f2] 25)) = W1 at X HB ⊢
    have X_0 := X.cells 0 _ rfl
    have X_1 := X.cells 1 _ rfl
    have X_2 := X.cells 2 _ rfl
    have X_f0 := X.free 0 (by simp)
    have X_f1 := X.free 1 (by simp)
    have X_f2 := X.free 2 (by simp)
    have X_t := X.there
    go_wp2_with fail
    refine (BatU.dry_impl x d _).mono ?_
    rintro e v2 ⟨rfl, hv2⟩
    clear X_0 X_1 X_2 X_f0 X_f1 X_f2 X_t
    replace X := X.more hv2
    replace HB := be HB hv2
    have zhv2 := hv2.size
    clear hv2
    have X_0 := X.cells 0 _ rfl
    have X_1 := X.cells 1 _ rfl
    have X_2 := X.cells 2 _ rfl
    have X_f0 := X.free 0 (by simp)
    have X_f1 := X.free 1 (by simp)
    have X_f2 := X.free 2 (by simp)
    have X_t := X.there
    rw [HV.out]
    unfold SBatch.R.val
    go_wp2_with fail
    have X_t3 := X.there
    have O := Box.new X.below [.int .i64 z.f0, .int .i64 z.f1, .int .i64 z.f2] 25 (g := v2.heap.size) rfl
    clear X_0 X_1 X_2 X_f0 X_f1 X_f2 X_t
    replace X := (X).alloc (.cells #[.int .i64 z.f0, .int .i64 z.f1, .int .i64 z.f2] 25)
    replace HB := be HB (al (Below.refl _ _) (o := (.cells #[.int .i64 z.f0, .int .i64 z.f1, .int .i64 z.f2] 25)))
    generalize (v2.alloc (.cells #[.int .i64 z.f0, .int .i64 z.f1, .int .i64 z.f2] 25)) = W3 at O X HB ⊢
    have X_0 := X.cells 0 _ rfl
    have X_1 := X.cells 1 _ rfl
    have X_2 := X.cells 2 _ rfl
    have X_f0 := X.free 0 (by simp)
    have X_f1 := X.free 1 (by simp)
    have X_f2 := X.free 2 (by simp)
    have X_t := X.there
    have O_0 := O.cells 0 _ rfl
    have O_1 := O.cells 1 _ rfl
    have O_2 := O.cells 2 _ rfl
    have O_f0 := O.free 0 (by simp)
    have O_f1 := O.free 1 (by simp)
    have O_f2 := O.free 2 (by simp)
    have O_t := O.there
    go_wp2_with fail
    refine (BatU.dry_spec x d _).mono ?_
    rintro e v4 ⟨rfl, hv4⟩
    clear X_0 X_1 X_2 X_f0 X_f1 X_f2 X_t
    clear O_0 O_1 O_2 O_f0 O_f1 O_f2 O_t
    replace X := X.more hv4
    replace O := O.more hv4
    replace HB := be HB hv4
    have zhv4 := hv4.size
    clear hv4
    have X_0 := X.cells 0 _ rfl
    have X_1 := X.cells 1 _ rfl
    have X_2 := X.cells 2 _ rfl
    have X_f0 := X.free 0 (by simp)
    have X_f1 := X.free 1 (by simp)
    have X_f2 := X.free 2 (by simp)
    have X_t := X.there
    have O_0 := O.cells 0 _ rfl
    have O_1 := O.cells 1 _ rfl
    have O_2 := O.cells 2 _ rfl
    have O_f0 := O.free 0 (by simp)
    have O_f1 := O.free 1 (by simp)
    have O_f2 := O.free 2 (by simp)
    have O_t := O.there
    rw [HV.out]
    unfold SBatch.R.val
    go_upto_region 25 with fail
    have X_t5 := X.there
    have O_t5 := O.there
    have Y := Box.new X.below [.int .i64 z.f0, .int .i64 z.f1, .int .i64 z.f2] 25 (g := v4.heap.size) rfl
    clear X_0 X_1 X_2 X_f0 X_f1 X_f2 X_t
    replace X := (X).alloc (.cells #[.int .i64 z.f0, .int .i64 z.f1, .int .i64 z.f2] 25)
    clear O_0 O_1 O_2 O_f0 O_f1 O_f2 O_t
    replace O := (O).alloc (.cells #[.int .i64 z.f0, .int .i64 z.f1, .int .i64 z.f2] 25)
    replace HB := be HB (al (Below.refl _ _) (o := (.cells #[.int .i64 z.f0, .int .i64 z.f1, .int .i64 z.f2] 25)))
    generalize (v4.alloc (.cells #[.int .i64 z.f0, .int .i64 z.f1, .int .i64 z.f2] 25)) = W5 at Y X O HB ⊢
    have X_0 := X.cells 0 _ rfl
    have X_1 := X.cells 1 _ rfl
    have X_2 := X.cells 2 _ rfl
    have X_f0 := X.free 0 (by simp)
    have X_f1 := X.free 1 (by simp)
    have X_f2 := X.free 2 (by simp)
    have X_t := X.there
    have O_0 := O.cells 0 _ rfl
    have O_1 := O.cells 1 _ rfl
    have O_2 := O.cells 2 _ rfl
    have O_f0 := O.free 0 (by simp)
    have O_f1 := O.free 1 (by simp)
    have O_f2 := O.free 2 (by simp)
    have O_t := O.there
    have Y_0 := Y.cells 0 _ rfl
    have Y_1 := Y.cells 1 _ rfl
    have Y_2 := Y.cells 2 _ rfl
    have Y_f0 := Y.free 0 (by simp)
    have Y_f1 := Y.free 1 (by simp)
    have Y_f2 := Y.free 2 (by simp)
    have Y_t := Y.there
    clear HV
    go_cut [174] from 35 (fun cnd wc => cnd = .bool false ∧ W5 = wc)
    case first => as_aux_lemma =>
      cases q
      · go_wp2
        go_meet
        exact ⟨rfl, rfl⟩
      · obtain ⟨k0, k1, k2, k3, k4⟩ := HK.out rfl
        have d0 : (z.f2 + n != x.f2) = false := by rw [bne_eq_false_iff_eq]; exact k0
        have e1 : IntKind.i64.wrap (z.f2 + n) = z.f2 + n := IntWalk.i64_in _ (by omega)
        clear k0
        go_wp2
        go_meet
        exact ⟨rfl, rfl⟩
    case rest => as_aux_lemma =>
      obtain ⟨rfl, rfl⟩ := hcut
      have HB0 := Lib.hid X.below
      clear HK HB b3
      clear X_0 X_1 X_2 X_f0 X_f1 X_f2 X_t
      clear O_0 O_1 O_2 O_f0 O_f1 O_f2 O_t
      clear Y_0 Y_1 Y_2 Y_f0 Y_f1 Y_f2 Y_t
      clear X O Y
      have HB := HB0.out
      clear HB0
      go_wp2_with fail
      refine (DBat2.drawPur A cap zs _ (HC.out.below HB)).mono ?_
      rintro e w4 ⟨x, rfl, hB4⟩
      replace HB := be HB hB4
      clear hB4
      obtain ⟨p, r, q, hv, hk⟩ := pur_form x
      have HV := Lib.hid hv; clear hv
      have HK := Lib.hid hk; clear hk
      have b4 := beq_b q
      go_wp2_with fail
      have X := Box.new HB [.int .i64 x.f0, .int .i64 x.f1, .int .i64 x.f2] 25 (g := w4.heap.size) rfl
      replace HB := be HB (al (Below.refl _ _) (o := (.cells #[.int .i64 x.f0, .int .i64 x.f1, .int .i64 x.f2] 25)))
      generalize (w4.alloc (.cells #[.int .i64 x.f0, .int .i64 x.f1, .int .i64 x.f2] 25)) = W1 at X HB ⊢
      have X_0 := X.cells 0 _ rfl
      have X_1 := X.cells 1 _ rfl
      have X_2 := X.cells 2 _ rfl
      have X_f0 := X.free 0 (by simp)
      have X_f1 := X.free 1 (by simp)
      have X_f2 := X.free 2 (by simp)
      have X_t := X.there
      go_wp2_with fail
      refine (BatU.pur_impl x _).mono ?_
      rintro e v2 ⟨rfl, hv2⟩
      clear X_0 X_1 X_2 X_f0 X_f1 X_f2 X_t
      replace X := X.more hv2
      replace HB := be HB hv2
      have zhv2 := hv2.size
      clear hv2
      have X_0 := X.cells 0 _ rfl
      have X_1 := X.cells 1 _ rfl
      have X_2 := X.cells 2 _ rfl
      have X_f0 := X.free 0 (by simp)
      have X_f1 := X.free 1 (by simp)
      have X_f2 := X.free 2 (by simp)
      have X_t := X.there
      rw [HV.out]
      go_wp2_with fail
      refine (BatU.pur_spec x _).mono ?_
      rintro e v3 ⟨rfl, hv3⟩
      clear X_0 X_1 X_2 X_f0 X_f1 X_f2 X_t
      replace X := X.more hv3
      replace HB := be HB hv3
      have zhv3 := hv3.size
      clear hv3
      have X_0 := X.cells 0 _ rfl
      have X_1 := X.cells 1 _ rfl
      have X_2 := X.cells 2 _ rfl
      have X_f0 := X.free 0 (by simp)
      have X_f1 := X.free 1 (by simp)
      have X_f2 := X.free 2 (by simp)
      have X_t := X.there
      rw [HV.out]
      cases q
      · go_wp2
        go_ret
        exact ⟨rfl, X.below⟩
      · have hle := HK.out rfl
        have hle' : decide (p ≤ r) = true := decide_eq_true hle
        go_wp2
        go_ret
        exact ⟨rfl, X.below⟩
end Go.Proofs.Ytpokgnkcnibapaa.BatchLaw
