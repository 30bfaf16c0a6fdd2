/- FnCrystals, walked. -/
import Derived.Deep.Cut
import Derived.Deep.CutBlock
import Derived.Deep.CutRange
import Derived.Deep.DeepCutAuto
import Derived.BigQuiet
import Derived.Test.YthilbpklmjpmcaaCrysFacts2
import Derived.Test.YthilbpklmjpmcaaCrysCmp
import Derived.Test.YthilbpklmjpmcaaDCrysX
import Derived.Test.YthilbpklmjpmcaaFallV
import Derived.Test.YthilbpklmjpmcaaLaws10c
namespace Go.Proofs.Ythilbpklmjpmcaa.CrystalsLaw
open Go.RowKit Go.Proofs.Ythilbpklmjpmcaa.Mem Go.Proofs.Ythilbpklmjpmcaa.Base Go.Proofs.Ythilbpklmjpmcaa.SInt Go.Proofs.Ythilbpklmjpmcaa.Regn Go.Proofs.Ythilbpklmjpmcaa.Boxes Go.Proofs.Ythilbpklmjpmcaa.Keep Go.Proofs.Ythilbpklmjpmcaa.LiqP Go.Proofs.Ythilbpklmjpmcaa.LiqG Go.Proofs.Ythilbpklmjpmcaa.FallP Go.Proofs.Ythilbpklmjpmcaa.FallU Go.Proofs.Ythilbpklmjpmcaa.CrysFacts2
set_option linter.unusedVariables false
set_option linter.unusedSimpArgs false
set_option maxRecDepth 100000
abbrev Yes (w : World) (e : Ending) (w' : World) : Prop := e = .returned (.bool true) ∧ Below w.heap.size w w'
theorem bne_b (q : Bool) : (q != q) = false := by cases q <;> rfl
theorem iv_gone {l : List SKind.R} {s : List Int} {wt : Int} {n k : Nat} (h : k < n) : (iv (goneL l s wt n))[k]? = some (.int .i64 (fn l s wt k)) := by
  have := iv_get (goneL l s wt n) k (by rw [gone_len]; exact h)
  rw [gone_get] at this
  exact this
theorem iv_stay {l : List SKind.R} {s : List Int} {wt : Int} {n k : Nat} (h : k < n) : (iv (stayL l s wt n))[k]? = some (.int .i64 (at0 s k - fn l s wt k)) := by
  have := iv_get (stayL l s wt n) k (by rw [stay_len]; exact h)
  rw [stay_get] at this
  exact this
theorem iv_salt {s : List Int} {k : Nat} (h : k < s.length) : (iv s)[k]? = some (.int .i64 (at0 s k)) := by
  rw [at0_eq h]; exact iv_get s k h
theorem flat_w {l : List SKind.R} {k : Nat} (h : k < l.length) : (SKind.flat l)[k * 3 + 1]? = some (.int .i64 (atK l k).f1) := by
  rw [atK_eq h]; exact SKind.flat_1 l k h
theorem rd_at {w : World} {B b o : Nat} {xs : List Value} (h : Rd w B (some ⟨b, o, none⟩) xs) {j : Nat} {v : Value} (hv : xs[j]? = some v) : w.cell? ⟨b, o + j, none⟩ = some v := by
  rcases h with rfl | ⟨b', o', hA, _, hc⟩
  · simp at hv
  · injection hA with hA; injection hA with h1 h2 h3
    subst h1; subst h2; exact hc j v hv
theorem rd_form {w : World} {B : Nat} {A : Option Addr} {xs : List Value} (h : Rd w B A xs) (hx : 0 < xs.length) : ∃ b o, A = some ⟨b, o, none⟩ := by
  obtain ⟨b, o, e, _⟩ := h.at hx
  exact ⟨b, o, e⟩
set_option maxHeartbeats 6000000 in
theorem law (A : Option Addr) (cap : Nat) (zs : List Int) (w : World) (hr : Rd w w.heap.size A (zs.map (Value.int .u8))) (hn : zs.length ≤ maxLen) (hb : ∀ z ∈ zs, 0 ≤ z ∧ z ≤ 255) :
    Calls Try.prog 3 #[.slice A zs.length cap] w (Yes w) := by
  by_cases hbig : 65536 < zs.length
  · have HG := Lib.hid (show Draw.bigB zs.length = true from decide_eq_true hbig)
    clear hr hb
    go_enter Try.func3, Try.ntmps3
    go_wp2_with fail
    refine (Draw.big_any A cap zs.length w hn).mono ?_
    rintro e w' ⟨rfl, rfl⟩
    rw [HG.out]
    go_wp2
    go_ret
    exact ⟨rfl, Below.refl _ _⟩
  have HG := Lib.hid (show Draw.bigB zs.length = false from decide_eq_false hbig)
  have HN := Lib.hid hn; clear hn
  have HC := Lib.hid (show Draw.Src w A zs from ⟨hr, by omega, hb⟩); clear hr hb
  go_enter Try.func3, Try.ntmps3
  go_wp2_with fail
  refine (Draw.big_any A cap zs.length w HN.out).mono ?_
  rintro e w' ⟨rfl, rfl⟩
  rw [HG.out]
  clear HG hbig HN
  go_wp2_with fail
  refine (DCrys.drawFall A cap zs w HC.out).mono ?_
  rintro e w1 ⟨L, P, cp, wt, AS, cs, s, hl, hs, rfl, O, hln, OS, HB0⟩
  have K1 := DCrys.ak_of O hln OS hl hs
  clear O OS
  go_wp2_with fail
  have B := Box.new HB0 [.int .i64 wt, .slice AS s.length cs] 27 (g := w1.heap.size) rfl
  replace K1 := Ak.keep K1 (al (Below.refl _ _) (o := (.cells #[.int .i64 wt, .slice AS s.length cs] 27)))
  generalize (w1.alloc (.cells #[.int .i64 wt, .slice AS s.length cs] 27)) = W1 at B K1 ⊢
  have B_0 := B.cells 0 _ rfl
  have B_1 := B.cells 1 _ rfl
  have B_f0 := B.free 0 (by simp)
  have B_f1 := B.free 1 (by simp)
  have B_t := B.there
  have hsp := fun w h => out_spec P cp L wt AS cs s w h
  have him := fun w h => FallV.out_impl P cp L wt AS cs s w h
  have hml := Laws10c.aft_len (l := L) (wt := wt) (s := s) (t := 0)
  have hyes := fun h => out_yes (l := L) (wt := wt) (s := s) h
  rw [dry0] at hsp him
  generalize aftW L wt s 0 = wv at hsp him hyes
  generalize aftS L wt s 0 = S1 at hsp him hml hyes
  generalize aftG L wt s 0 = G1 at hsp him hml hyes
  have HGD := Lib.hid (fun h => out_good (l := L) (wt := wt) (s := s) h)
  have HRF := Lib.hid (fun h (k : Nat) (hk : k < L.length) => round_facts (l := L) (wt := wt) (s := s) h hk)
  have HVL := Lib.hid (fun h => vld (l := L) (wt := wt) (s := s) h)
  have HMY := Lib.hid (fun h => mass_yes (l := L) (wt := wt) (s := s) h)
  obtain ⟨q, hq⟩ : ∃ q, liqB L wt s = q := ⟨_, rfl⟩
  obtain ⟨gk, hgk⟩ : ∃ q, KindP.goodK L = q := ⟨_, rfl⟩
  rw [hq] at hsp him
  have HQ := Lib.hid hq; clear hq
  have HGK := Lib.hid hgk; clear hgk
  have HSP := Lib.hid hsp; clear hsp
  have HIM := Lib.hid him; clear him
  have HYES := Lib.hid hyes; clear hyes
  obtain ⟨hm1, hm2⟩ := hml
  go_wp2_with fail
  refine (HIM.out _ K1).mono ?_
  rintro e v2 ⟨A1, k1, A2, k2, rfl, T1, hv2⟩
  clear B_0 B_1 B_f0 B_f1 B_t
  replace B := B.more hv2
  replace K1 := Ak.keep K1 hv2
  have zhv2 := hv2.size
  clear hv2
  have B_0 := B.cells 0 _ rfl
  have B_1 := B.cells 1 _ rfl
  have B_f0 := B.free 0 (by simp)
  have B_f1 := B.free 1 (by simp)
  have B_t := B.there
  have R1 : Rd v2 v2.heap.size A1 (iv S1) := Rd.of_own (show v2.ownsRow _ _ _ (.slice A1 S1.length k1) _ _ from T1.a)
  have R2 : Rd v2 v2.heap.size A2 (iv G1) := Rd.of_own (show v2.ownsRow _ _ _ (.slice A2 G1.length k2) _ _ from T1.b)
  clear T1
  go_wp2_with fail
  have B_t3 := B.there
  have E := Box.new B.below [.int .i64 wv, .slice A1 S1.length k1] 27 (g := v2.heap.size) rfl
  clear B_0 B_1 B_f0 B_f1 B_t
  replace B := (B).alloc (.cells #[.int .i64 wv, .slice A1 S1.length k1] 27)
  replace K1 := Ak.keep K1 (al (Below.refl _ _) (o := (.cells #[.int .i64 wv, .slice A1 S1.length k1] 27)))
  replace R1 := rd_keep R1 (al (Below.refl _ _) (o := (.cells #[.int .i64 wv, .slice A1 S1.length k1] 27)))
  replace R2 := rd_keep R2 (al (Below.refl _ _) (o := (.cells #[.int .i64 wv, .slice A1 S1.length k1] 27)))
  generalize (v2.alloc (.cells #[.int .i64 wv, .slice A1 S1.length k1] 27)) = W3 at E B K1 R1 R2 ⊢
  have B_0 := B.cells 0 _ rfl
  have B_1 := B.cells 1 _ rfl
  have B_f0 := B.free 0 (by simp)
  have B_f1 := B.free 1 (by simp)
  have B_t := B.there
  have E_0 := E.cells 0 _ rfl
  have E_1 := E.cells 1 _ rfl
  have E_f0 := E.free 0 (by simp)
  have E_f1 := E.free 1 (by simp)
  have E_t := E.there
  go_wp2_with fail
  refine (HSP.out _ K1).mono ?_
  rintro e v4 ⟨A3, k3, A4, k4, rfl, T1, hv4⟩
  clear B_0 B_1 B_f0 B_f1 B_t
  clear E_0 E_1 E_f0 E_f1 E_t
  replace B := B.more hv4
  replace E := E.more hv4
  replace K1 := Ak.keep K1 hv4
  replace R1 := rd_keep R1 hv4
  replace R2 := rd_keep R2 hv4
  have zhv4 := hv4.size
  clear hv4
  have B_0 := B.cells 0 _ rfl
  have B_1 := B.cells 1 _ rfl
  have B_f0 := B.free 0 (by simp)
  have B_f1 := B.free 1 (by simp)
  have B_t := B.there
  have E_0 := E.cells 0 _ rfl
  have E_1 := E.cells 1 _ rfl
  have E_f0 := E.free 0 (by simp)
  have E_f1 := E.free 1 (by simp)
  have E_t := E.there
  have R3 : Rd v4 v4.heap.size A3 (iv S1) := Rd.of_own (show v4.ownsRow _ _ _ (.slice A3 S1.length k3) _ _ from T1.a)
  have R4 : Rd v4 v4.heap.size A4 (iv G1) := Rd.of_own (show v4.ownsRow _ _ _ (.slice A4 G1.length k4) _ _ from T1.b)
  clear T1
  go_wp2_with fail
  have B_t5 := B.there
  have E_t5 := E.there
  have F := Box.new B.below [.int .i64 wv, .slice A3 S1.length k3] 27 (g := v4.heap.size) rfl
  clear B_0 B_1 B_f0 B_f1 B_t
  replace B := (B).alloc (.cells #[.int .i64 wv, .slice A3 S1.length k3] 27)
  clear E_0 E_1 E_f0 E_f1 E_t
  replace E := (E).alloc (.cells #[.int .i64 wv, .slice A3 S1.length k3] 27)
  replace K1 := Ak.keep K1 (al (Below.refl _ _) (o := (.cells #[.int .i64 wv, .slice A3 S1.length k3] 27)))
  replace R1 := rd_keep R1 (al (Below.refl _ _) (o := (.cells #[.int .i64 wv, .slice A3 S1.length k3] 27)))
  replace R2 := rd_keep R2 (al (Below.refl _ _) (o := (.cells #[.int .i64 wv, .slice A3 S1.length k3] 27)))
  replace R3 := rd_keep R3 (al (Below.refl _ _) (o := (.cells #[.int .i64 wv, .slice A3 S1.length k3] 27)))
  replace R4 := rd_keep R4 (al (Below.refl _ _) (o := (.cells #[.int .i64 wv, .slice A3 S1.length k3] 27)))
  generalize (v4.alloc (.cells #[.int .i64 wv, .slice A3 S1.length k3] 27)) = W5 at F B E K1 R1 R2 R3 R4 ⊢
  have B_0 := B.cells 0 _ rfl
  have B_1 := B.cells 1 _ rfl
  have B_f0 := B.free 0 (by simp)
  have B_f1 := B.free 1 (by simp)
  have B_t := B.there
  have E_0 := E.cells 0 _ rfl
  have E_1 := E.cells 1 _ rfl
  have E_f0 := E.free 0 (by simp)
  have E_f1 := E.free 1 (by simp)
  have E_t := E.there
  have F_0 := F.cells 0 _ rfl
  have F_1 := F.cells 1 _ rfl
  have F_f0 := F.free 0 (by simp)
  have F_f1 := F.free 1 (by simp)
  have F_t := F.there
  have b1 := bne_b q
  have b2 := bne_b gk
  have hS9 : S1.length ≤ 1048576 := by omega
  have hG9 : G1.length ≤ 1048576 := by omega
  have hL9 : L.length ≤ 1048576 := by omega
  go_wp2_with fail
  refine wp_region_text (fun w' => Box (w1.heap.size) [.int .i64 wt, .slice AS s.length cs] w w' ∧ Box (v2.heap.size) [.int .i64 wv, .slice A1 S1.length k1] w w' ∧ Box (v4.heap.size) [.int .i64 wv, .slice A3 S1.length k3] w w' ∧ LiqG.Ak w' P L AS s ∧ Rd w' w'.heap.size (A1) (iv S1) ∧ Rd w' w'.heap.size (A2) (iv G1) ∧ Rd w' w'.heap.size (A3) (iv S1) ∧ Rd w' w'.heap.size (A4) (iv G1)) (by kernel_rfl) (by kernel_rfl) ⟨B.drew, E.drew, F.drew, Ak.keep K1 (Below.refl _ _).drew, rd_keep R1 (Below.refl _ _).drew, rd_keep R2 (Below.refl _ _).drew, rd_keep R3 (Below.refl _ _).drew, rd_keep R4 (Below.refl _ _).drew⟩ ?_
  clear B_0 B_1 B_f0 B_f1 B_t
  clear E_0 E_1 E_f0 E_f1 E_t
  clear F_0 F_1 F_f0 F_f1 F_t
  iterate 31 (
    apply SeqH.one
    · intro uw K hS hK
      obtain ⟨qB, qE, qF, qK1, qR1, qR2, qR3, qR4⟩ := hS
      have qB_0 := qB.cells 0 _ rfl
      have qB_1 := qB.cells 1 _ rfl
      have qE_0 := qE.cells 0 _ rfl
      have qE_1 := qE.cells 1 _ rfl
      have qF_0 := qF.cells 0 _ rfl
      have qF_1 := qF.cells 1 _ rfl
      first
        | (go_simp; exact hK.out _ ⟨qB, qE, qF, qK1, qR1, qR2, qR3, qR4⟩)
        | (go_simp; go_at_call 18; (with_reducible refine (CrysCmp.vliq_same wv A1 A3 k1 k3 S1 _ qR1 qR3 hS9).mono ?_); rintro e uw1 ⟨rfl, hv⟩; go_wp2_with fail; exact hK.out _ ⟨qB.more hv, qE.more hv, qF.more hv, Ak.keep qK1 hv, rd_keep qR1 hv, rd_keep qR2 hv, rd_keep qR3 hv, rd_keep qR4 hv⟩)
        | (go_simp; go_at_call 19; (with_reducible refine (CrysCmp.vints_same A2 A4 k2 k4 G1 _ qR2 qR4 hG9).mono ?_); rintro e uw1 ⟨rfl, hv⟩; go_wp2_with fail; exact hK.out _ ⟨qB.more hv, qE.more hv, qF.more hv, Ak.keep qK1 hv, rd_keep qR1 hv, rd_keep qR2 hv, rd_keep qR3 hv, rd_keep qR4 hv⟩)
        | (go_simp; go_at_call 20; (with_reducible refine (LiqG.isl_impl P cp L wt AS cs s _ qK1).mono ?_); rintro e uw1 ⟨rfl, hv⟩; rw [HQ.out]; go_wp2_with fail; exact hK.out _ ⟨qB.more hv, qE.more hv, qF.more hv, Ak.keep qK1 hv, rd_keep qR1 hv, rd_keep qR2 hv, rd_keep qR3 hv, rd_keep qR4 hv⟩)
        | (go_simp; go_at_call 21; (with_reducible refine (LiqG.isl_spec P cp L wt AS cs s _ qK1).mono ?_); rintro e uw1 ⟨rfl, hv⟩; rw [HQ.out]; go_wp2_with fail; exact hK.out _ ⟨qB.more hv, qE.more hv, qF.more hv, Ak.keep qK1 hv, rd_keep qR1 hv, rd_keep qR2 hv, rd_keep qR3 hv, rd_keep qR4 hv⟩)
        | (go_simp; go_at_call 22; (with_reducible refine (KindG.are_impl P cp L _ qK1.k hL9 hln).mono ?_); rintro e uw1 ⟨rfl, hv⟩; rw [HGK.out]; go_wp2_with fail; exact hK.out _ ⟨qB.more hv, qE.more hv, qF.more hv, Ak.keep qK1 hv, rd_keep qR1 hv, rd_keep qR2 hv, rd_keep qR3 hv, rd_keep qR4 hv⟩)
        | (go_simp; go_at_call 23; (with_reducible refine (KindG.are_spec P cp L _ qK1.k hL9 hln).mono ?_); rintro e uw1 ⟨rfl, hv⟩; rw [HGK.out]; go_wp2_with fail; exact hK.out _ ⟨qB.more hv, qE.more hv, qF.more hv, Ak.keep qK1 hv, rd_keep qR1 hv, rd_keep qR2 hv, rd_keep qR3 hv, rd_keep qR4 hv⟩)
    try simp only [Act.put, List.setIfInBounds_toArray, List.set_cons_zero, List.set_cons_succ])
  refine SeqH.end' rfl ?_
  intro v6 hS
  clear B E F K1 R1 R2 R3 R4
  obtain ⟨B, E, F, K1, R1, R2, R3, R4⟩ := hS
  have B_0 := B.cells 0 _ rfl
  have B_1 := B.cells 1 _ rfl
  have B_f0 := B.free 0 (by simp)
  have B_f1 := B.free 1 (by simp)
  have B_t := B.there
  have E_0 := E.cells 0 _ rfl
  have E_1 := E.cells 1 _ rfl
  have E_f0 := E.free 0 (by simp)
  have E_f1 := E.free 1 (by simp)
  have E_t := E.there
  have F_0 := F.cells 0 _ rfl
  have F_1 := F.cells 1 _ rfl
  have F_f0 := F.free 0 (by simp)
  have F_f1 := F.free 1 (by simp)
  have F_t := F.there
  go_upto_if 91 with fail
  clear R3 R4 b1 b2
  go_cut [] from 3 (fun wc => Below w.heap.size w wc)
  case first => as_aux_lemma =>
    cases q
    · go_wp2
      go_meet
      case rel => exact B.below
    have hq := HQ.out
    obtain ⟨rfl, rfl, rfl⟩ := HYES.out hq
    have V := HVL.out hq
    have n1 := V.n
    have hsl : s.length = L.length := V.len
    obtain ⟨hgd, hle⟩ := HGD.out hq
    have HMX := Lib.hid (HMY.out hq)
    have HMW := Lib.hid (mass_yes hgd)
    have wv0 : 0 ≤ fw L s wt L.length := (vld hgd).w0
    have HR := Lib.hid (fun k hk => HRF.out hq k hk)
    clear V hq HYES HVL HGD HMY HRF hm1 hm2 hgd
    have hsl2 : (stayL L s wt L.length).length = L.length := stay_len _ _ _ _
    have hgl2 : (goneL L s wt L.length).length = L.length := gone_len _ _ _ _
    obtain ⟨b1, o1, rfl⟩ := rd_form R1 (by rw [iv_len]; omega)
    obtain ⟨b2, o2, rfl⟩ := rd_form R2 (by rw [iv_len]; omega)
    obtain ⟨bp, op, rfl⟩ := rd_form K1.k (by rw [SKind.flat_n]; omega)
    obtain ⟨bs, os, rfl⟩ := rd_form K1.sa (by rw [iv_len]; omega)
    have HFS := fun (W : World) (h : LiqG.Ak W (some ⟨bp, op, none⟩) L (some ⟨bs, os, none⟩) s) (k : Nat) (hk : k < L.length) => And.intro (rd_at h.k (flat_w hk)) (rd_at h.sa (iv_salt (k := k) (by omega)))
    have HFG := fun (W : World) (h : Rd W W.heap.size (some ⟨b2, o2, none⟩) (iv (goneL L s wt L.length))) (k : Nat) (hk : k < L.length) => rd_at h (iv_gone hk)
    have HFT := fun (W : World) (h : Rd W W.heap.size (some ⟨b1, o1, none⟩) (iv (stayL L s wt L.length))) (k : Nat) (hk : k < L.length) => rd_at h (iv_stay hk)
    have HLS := Lib.hid (And.intro hsl2 hgl2)
    have HSL := Lib.hid hsl
    clear hsl
    obtain ⟨wv, hwv⟩ : ∃ x, fw L s wt L.length = x := ⟨_, rfl⟩
    obtain ⟨S1, hS1⟩ : ∃ x, stayL L s wt L.length = x := ⟨_, rfl⟩
    obtain ⟨G1, hG1⟩ : ∃ x, goneL L s wt L.length = x := ⟨_, rfl⟩
    have HE := Lib.hid E
    have HX := Lib.hid B
    have HK := Lib.hid K1
    have HT := Lib.hid R1
    have HG := Lib.hid R2
    clear B B_0 B_1 B_f0 B_f1 B_t E E_0 E_1 E_f0 E_f1 E_t F F_0 F_1 F_f0 F_f1 F_t K1 R1 R2
    rw [hS1] at HE HT HFT HMW hle HLS hS9
    rw [hwv] at HE HMW hle wv0 HR
    rw [hG1] at HG HFG HLS hG9
    rw [hS1, hwv, hG1]
    have HFSx := Lib.hid HFS; clear HFS
    have HFGx := Lib.hid HFG; clear HFG
    have HFTx := Lib.hid HFT; clear HFT
    have E_0 := HE.out.cells 0 _ rfl
    have E_1 := HE.out.cells 1 _ rfl
    have HFW := Lib.hid hwv
    clear hwv hS1 hG1 hsl2 hgl2
    obtain ⟨ma, hma⟩ : ∃ x, wt + s.sum = x := ⟨_, rfl⟩
    obtain ⟨mb, hmb⟩ : ∃ x, wv + S1.sum = x := ⟨_, rfl⟩
    rw [hma] at HMX hle
    rw [hmb] at HMW hle
    clear hma hmb
    go_upto_region 11 with fail
    clear E_0 E_1
    go_loopw [11, 12] (fun zv ki wr => ∃ (k : Nat) (z : Int), k ≤ L.length ∧ zv = .int .i64 z ∧ ki = .int .i64 k ∧ Hid (z = wv + wt - fw L s wt k) ∧ Hid (Box w1.heap.size [.int .i64 wt, .slice (some ⟨bs, os, none⟩) s.length cs] w wr) ∧ Hid (Box v2.heap.size [.int .i64 wv, .slice (some ⟨b1, o1, none⟩) S1.length k1] w wr) ∧ Hid (LiqG.Ak wr (some ⟨bp, op, none⟩) L (some ⟨bs, os, none⟩) s) ∧ Hid (Rd wr wr.heap.size (some ⟨b1, o1, none⟩) (iv S1)) ∧ Hid (Rd wr wr.heap.size (some ⟨b2, o2, none⟩) (iv G1))) (fun _ ki _ => 13 - (intOf ki).toNat)
    case atStart => exact ⟨0, wv, Nat.zero_le _, rfl, rfl, Lib.hid (by rw [show fw L s wt 0 = wt from rfl]; omega), HX, HE, HK, HT, HG⟩
    case round =>
      clear HX HE HK HT HG
      obtain ⟨k, z, hk, rfl, rfl, HZ, HX, HE, HK, HT, HG⟩ := hrel
      by_cases hlt : k < L.length
      · have d1 : decide ((k : Int) < L.length) = true := decide_eq_true (by omega)
        have d1' : decide (k < L.length) = true := decide_eq_true hlt
        have hlG : k < G1.length := by rw [HLS.out.2]; exact hlt
        have hlS : k < S1.length := by rw [HLS.out.1]; exact hlt
        have hls : k < s.length := by rw [HSL.out]; exact hlt
        have d2 : decide ((k : Int) < G1.length) = true := decide_eq_true (by omega)
        have d2' : decide (k < G1.length) = true := decide_eq_true hlG
        have d3 : decide ((k : Int) < S1.length) = true := decide_eq_true (by omega)
        have d3' : decide (k < S1.length) = true := decide_eq_true hlS
        obtain ⟨r0, ⟨m0, m1⟩, ⟨t0, t1⟩, ⟨z0, z1⟩, hnx⟩ := HR.out k hlt
        have hG := HFGx.out wr HG.out k hlt
        have hS := HFTx.out wr HT.out k hlt
        obtain ⟨hF0, hA⟩ := HFSx.out wr HK.out k hlt
        have hF : wr.cell? ⟨bp, op + k * 3 + 1, none⟩ = some (.int .i64 (atK L k).f1) := by rw [Nat.add_assoc]; exact hF0
        clear hF0
        rw [← HZ.out] at z0 z1 hnx
        obtain ⟨g, hg⟩ : ∃ x, fn L s wt k = x := ⟨_, rfl⟩
        obtain ⟨f, hf⟩ : ∃ x, (atK L k).f1 = x := ⟨_, rfl⟩
        obtain ⟨sk, hsk⟩ : ∃ x, at0 s k = x := ⟨_, rfl⟩
        rw [hg] at r0 m0 m1 t0 hnx hG hS
        rw [hf] at m0 m1 hnx hF
        rw [hsk] at t0 t1 hS hA
        clear hg hf hsk
        obtain ⟨m, hm⟩ : ∃ x, g * f = x := ⟨_, rfl⟩
        rw [hm] at m0 m1 hnx
        obtain ⟨st, hst⟩ : ∃ x, sk - g = x := ⟨_, rfl⟩
        rw [hst] at t0 hS
        obtain ⟨d, hd⟩ : ∃ x, m / 10 = x := ⟨_, rfl⟩
        have hdr : 0 ≤ d ∧ d ≤ 1000001 := by omega
        have y1 : IntKind.i64.wrap (g * f) = m := by rw [hm]; exact IntWalk.i64_in _ (by omega)
        have y2 : m.tdiv 10 = d := (Int.tdiv_eq_ediv_of_nonneg m0).trans hd
        have y3 : IntKind.i64.wrap d = d := IntWalk.i64_in _ (by omega)
        have y4 : IntKind.i64.wrap (z + d) = z + d := IntWalk.i64_in _ (by omega)
        have y5 : IntKind.i64.wrap (st + g) = sk := by rw [show st + g = sk by omega]; exact IntWalk.i64_in _ (by omega)
        have y6 : IntKind.i64.wrap ((k : Int) + 1) = k + 1 := IntWalk.i64_in _ (by omega)
        have c1 : decide (g < 0) = false := decide_eq_false (by omega)
        rw [hd] at hnx
        have HNX := Lib.hid hnx
        clear hnx hd hm hst m0 m1 t0 t1 z0 z1 hdr r0
        have B_1 := HX.out.cells 1 _ rfl
        have E_1 := HE.out.cells 1 _ rfl
        go_wp2_with fail
        go_quiet (fail)
        generalize nq = q1
        go_wp2_with fail
        go_quiet (fail)
        generalize nq = q2
        go_wp2
        have HD := (Drawn.n wr (q1 + q2)).below wr.heap.size
        exact ⟨⟨k + 1, z + d, hlt, rfl, by go_num, HNX, Lib.hid (HX.out.more HD), Lib.hid (HE.out.more HD), Lib.hid (HK.out.keep HD), Lib.hid (rd_keep HT.out HD), Lib.hid (rd_keep HG.out HD)⟩, by simp [intOf]; omega⟩
      · have d1 : decide ((k : Int) < L.length) = false := decide_eq_false (by omega)
        have d1' : decide (k < L.length) = false := decide_eq_false hlt
        obtain rfl : z = wt := by
          have h1 := HZ.out
          have h2 := HFW.out
          rw [show k = L.length by omega, h2] at h1
          omega
        clear HR HFSx HFGx HFTx HZ
        have B_0 := HX.out.cells 0 _ rfl
        have B_1 := HX.out.cells 1 _ rfl
        go_wp2_with fail
        refine (LiqG.mass_impl (some ⟨bp, op, none⟩) cp L z (some ⟨bs, os, none⟩) cs s _ HK.out).mono ?_
        rw [HMX.out]
        rintro e w5 ⟨rfl, hv5⟩
        replace HX := Lib.hid (HX.out.more hv5)
        replace HE := Lib.hid (HE.out.more hv5)
        replace HK := Lib.hid (HK.out.keep hv5)
        replace HT := Lib.hid (rd_keep HT.out hv5)
        clear hv5 B_0 B_1 HG
        have E_0 := HE.out.cells 0 _ rfl
        have E_1 := HE.out.cells 1 _ rfl
        go_wp2_with fail
        refine (LiqG.mass_impl (some ⟨bp, op, none⟩) cp L wv (some ⟨b1, o1, none⟩) k1 S1 _ ⟨HK.out.k, HK.out.n, HK.out.z, HT.out, hS9⟩).mono ?_
        rw [HMW.out]
        rintro e w6 ⟨rfl, hv6⟩
        replace HX := Lib.hid (HX.out.more hv6)
        replace HE := Lib.hid (HE.out.more hv6)
        clear hv6 E_0 E_1 HK HT
        have B_0 := HX.out.cells 0 _ rfl
        have E_0 := HE.out.cells 0 _ rfl
        have c2 : decide (wv < 0) = false := decide_eq_false (by omega)
        have c3 : decide (ma < mb) = false := decide_eq_false (by omega)
        go_wp2
        go_meet
        case rel => exact HX.out.below
  case rest => as_aux_lemma =>
    go_wp2_with fail
    refine (DCrysX.drawAfter A cap zs wc (HC.out.below hcut)).mono ?_
    rintro e w2 ⟨L, P, cp, wt, AS, cs, s, ix, hl, hs, rfl, O, hln, OS, hB⟩
    have HB0 := be hcut hB
    have K1 := DCrys.ak_of O hln OS hl hs
    clear O OS hln hB hcut
    go_wp2_with fail
    have B := Box.new HB0 [.int .i64 wt, .slice AS s.length cs] 27 (g := w2.heap.size) rfl
    replace K1 := Ak.keep K1 (al (Below.refl _ _) (o := (.cells #[.int .i64 wt, .slice AS s.length cs] 27)))
    generalize (w2.alloc (.cells #[.int .i64 wt, .slice AS s.length cs] 27)) = W1 at B K1 ⊢
    have B_0 := B.cells 0 _ rfl
    have B_1 := B.cells 1 _ rfl
    have B_f0 := B.free 0 (by simp)
    have B_f1 := B.free 1 (by simp)
    have B_t := B.there
    have hsp := fun w h => aft_spec P cp L wt AS cs s ix w h
    have him := fun w h => FallV.aft_impl P cp L wt AS cs s ix w h
    have hml := Laws10c.aft_len (l := L) (wt := wt) (s := s) (t := ix)
    generalize aftW L wt s ix = wv at hsp him
    generalize aftS L wt s ix = S1 at hsp him hml
    generalize aftG L wt s ix = G1 at hsp him hml
    generalize dryOk L wt s ix = q at hsp him
    have HSP := Lib.hid hsp; clear hsp
    have HIM := Lib.hid him; clear him
    obtain ⟨hm1, hm2⟩ := hml
    go_wp2_with fail
    refine (HIM.out _ K1).mono ?_
    rintro e v2 ⟨A1, k1, A2, k2, rfl, T1, hv2⟩
    clear B_0 B_1 B_f0 B_f1 B_t
    replace B := B.more hv2
    replace K1 := Ak.keep K1 hv2
    have zhv2 := hv2.size
    clear hv2
    have B_0 := B.cells 0 _ rfl
    have B_1 := B.cells 1 _ rfl
    have B_f0 := B.free 0 (by simp)
    have B_f1 := B.free 1 (by simp)
    have B_t := B.there
    have R1 : Rd v2 v2.heap.size A1 (iv S1) := Rd.of_own (show v2.ownsRow _ _ _ (.slice A1 S1.length k1) _ _ from T1.a)
    have R2 : Rd v2 v2.heap.size A2 (iv G1) := Rd.of_own (show v2.ownsRow _ _ _ (.slice A2 G1.length k2) _ _ from T1.b)
    clear T1
    go_wp2_with fail
    have B_t3 := B.there
    have E := Box.new B.below [.int .i64 wv, .slice A1 S1.length k1] 27 (g := v2.heap.size) rfl
    clear B_0 B_1 B_f0 B_f1 B_t
    replace B := (B).alloc (.cells #[.int .i64 wv, .slice A1 S1.length k1] 27)
    replace K1 := Ak.keep K1 (al (Below.refl _ _) (o := (.cells #[.int .i64 wv, .slice A1 S1.length k1] 27)))
    replace R1 := rd_keep R1 (al (Below.refl _ _) (o := (.cells #[.int .i64 wv, .slice A1 S1.length k1] 27)))
    replace R2 := rd_keep R2 (al (Below.refl _ _) (o := (.cells #[.int .i64 wv, .slice A1 S1.length k1] 27)))
    generalize (v2.alloc (.cells #[.int .i64 wv, .slice A1 S1.length k1] 27)) = W3 at E B K1 R1 R2 ⊢
    have B_0 := B.cells 0 _ rfl
    have B_1 := B.cells 1 _ rfl
    have B_f0 := B.free 0 (by simp)
    have B_f1 := B.free 1 (by simp)
    have B_t := B.there
    have E_0 := E.cells 0 _ rfl
    have E_1 := E.cells 1 _ rfl
    have E_f0 := E.free 0 (by simp)
    have E_f1 := E.free 1 (by simp)
    have E_t := E.there
    go_wp2_with fail
    refine (HSP.out _ K1).mono ?_
    rintro e v4 ⟨A3, k3, A4, k4, rfl, T1, hv4⟩
    clear B_0 B_1 B_f0 B_f1 B_t
    clear E_0 E_1 E_f0 E_f1 E_t
    replace B := B.more hv4
    replace E := E.more hv4
    replace K1 := Ak.keep K1 hv4
    replace R1 := rd_keep R1 hv4
    replace R2 := rd_keep R2 hv4
    have zhv4 := hv4.size
    clear hv4
    have B_0 := B.cells 0 _ rfl
    have B_1 := B.cells 1 _ rfl
    have B_f0 := B.free 0 (by simp)
    have B_f1 := B.free 1 (by simp)
    have B_t := B.there
    have E_0 := E.cells 0 _ rfl
    have E_1 := E.cells 1 _ rfl
    have E_f0 := E.free 0 (by simp)
    have E_f1 := E.free 1 (by simp)
    have E_t := E.there
    have R3 : Rd v4 v4.heap.size A3 (iv S1) := Rd.of_own (show v4.ownsRow _ _ _ (.slice A3 S1.length k3) _ _ from T1.a)
    have R4 : Rd v4 v4.heap.size A4 (iv G1) := Rd.of_own (show v4.ownsRow _ _ _ (.slice A4 G1.length k4) _ _ from T1.b)
    clear T1
    go_wp2_with fail
    have B_t5 := B.there
    have E_t5 := E.there
    have F := Box.new B.below [.int .i64 wv, .slice A3 S1.length k3] 27 (g := v4.heap.size) rfl
    clear B_0 B_1 B_f0 B_f1 B_t
    replace B := (B).alloc (.cells #[.int .i64 wv, .slice A3 S1.length k3] 27)
    clear E_0 E_1 E_f0 E_f1 E_t
    replace E := (E).alloc (.cells #[.int .i64 wv, .slice A3 S1.length k3] 27)
    replace K1 := Ak.keep K1 (al (Below.refl _ _) (o := (.cells #[.int .i64 wv, .slice A3 S1.length k3] 27)))
    replace R1 := rd_keep R1 (al (Below.refl _ _) (o := (.cells #[.int .i64 wv, .slice A3 S1.length k3] 27)))
    replace R2 := rd_keep R2 (al (Below.refl _ _) (o := (.cells #[.int .i64 wv, .slice A3 S1.length k3] 27)))
    replace R3 := rd_keep R3 (al (Below.refl _ _) (o := (.cells #[.int .i64 wv, .slice A3 S1.length k3] 27)))
    replace R4 := rd_keep R4 (al (Below.refl _ _) (o := (.cells #[.int .i64 wv, .slice A3 S1.length k3] 27)))
    generalize (v4.alloc (.cells #[.int .i64 wv, .slice A3 S1.length k3] 27)) = W5 at F B E K1 R1 R2 R3 R4 ⊢
    have B_0 := B.cells 0 _ rfl
    have B_1 := B.cells 1 _ rfl
    have B_f0 := B.free 0 (by simp)
    have B_f1 := B.free 1 (by simp)
    have B_t := B.there
    have E_0 := E.cells 0 _ rfl
    have E_1 := E.cells 1 _ rfl
    have E_f0 := E.free 0 (by simp)
    have E_f1 := E.free 1 (by simp)
    have E_t := E.there
    have F_0 := F.cells 0 _ rfl
    have F_1 := F.cells 1 _ rfl
    have F_f0 := F.free 0 (by simp)
    have F_f1 := F.free 1 (by simp)
    have F_t := F.there
    have b1 := bne_b q
    go_wp2_with fail
    refine (CrysCmp.vliq_same wv A1 A3 k1 k3 S1 _ R1 R3 (by omega)).mono ?_
    rintro e v6 ⟨rfl, hv6⟩
    clear B_0 B_1 B_f0 B_f1 B_t
    clear E_0 E_1 E_f0 E_f1 E_t
    clear F_0 F_1 F_f0 F_f1 F_t
    replace B := B.more hv6
    replace E := E.more hv6
    replace F := F.more hv6
    replace K1 := Ak.keep K1 hv6
    replace R1 := rd_keep R1 hv6
    replace R2 := rd_keep R2 hv6
    replace R3 := rd_keep R3 hv6
    replace R4 := rd_keep R4 hv6
    have zhv6 := hv6.size
    clear hv6
    have B_0 := B.cells 0 _ rfl
    have B_1 := B.cells 1 _ rfl
    have B_f0 := B.free 0 (by simp)
    have B_f1 := B.free 1 (by simp)
    have B_t := B.there
    have E_0 := E.cells 0 _ rfl
    have E_1 := E.cells 1 _ rfl
    have E_f0 := E.free 0 (by simp)
    have E_f1 := E.free 1 (by simp)
    have E_t := E.there
    have F_0 := F.cells 0 _ rfl
    have F_1 := F.cells 1 _ rfl
    have F_f0 := F.free 0 (by simp)
    have F_f1 := F.free 1 (by simp)
    have F_t := F.there
    go_wp2_with fail
    refine (CrysCmp.vints_same A2 A4 k2 k4 G1 _ R2 R4 (by omega)).mono ?_
    rintro e v7 ⟨rfl, hv7⟩
    clear B_0 B_1 B_f0 B_f1 B_t
    clear E_0 E_1 E_f0 E_f1 E_t
    clear F_0 F_1 F_f0 F_f1 F_t
    replace B := B.more hv7
    replace E := E.more hv7
    replace F := F.more hv7
    replace K1 := Ak.keep K1 hv7
    replace R1 := rd_keep R1 hv7
    replace R2 := rd_keep R2 hv7
    replace R3 := rd_keep R3 hv7
    replace R4 := rd_keep R4 hv7
    have zhv7 := hv7.size
    clear hv7
    have B_0 := B.cells 0 _ rfl
    have B_1 := B.cells 1 _ rfl
    have B_f0 := B.free 0 (by simp)
    have B_f1 := B.free 1 (by simp)
    have B_t := B.there
    have E_0 := E.cells 0 _ rfl
    have E_1 := E.cells 1 _ rfl
    have E_f0 := E.free 0 (by simp)
    have E_f1 := E.free 1 (by simp)
    have E_t := E.there
    have F_0 := F.cells 0 _ rfl
    have F_1 := F.cells 1 _ rfl
    have F_f0 := F.free 0 (by simp)
    have F_f1 := F.free 1 (by simp)
    have F_t := F.there
    go_upto_region 25 with fail
    have HBB := B.below
    have HCB := Lib.hid (HC.out.below HBB)
    clear B B_0 B_1 B_f0 B_f1 B_t E E_0 E_1 E_f0 E_f1 E_t F F_0 F_1 F_f0 F_f1 F_t K1 R1 R2 R3 R4 b1 HSP HIM
    go_wp2_with fail
    refine (DCrys.drawFull A cap zs _ HCB.out).mono ?_
    rintro e w3 ⟨L, P, cp, wt, AS, cs, s, ix, hl, hs, hx0, hx1, rfl, O, hln, OS, hB⟩
    have HB0 := be HBB hB
    have K1 := DCrys.ak_of O hln OS hl hs
    clear O OS hln hB HBB HCB
    go_wp2_with fail
    have B := Box.new HB0 [.int .i64 wt, .slice AS s.length cs] 27 (g := w3.heap.size) rfl
    replace K1 := Ak.keep K1 (al (Below.refl _ _) (o := (.cells #[.int .i64 wt, .slice AS s.length cs] 27)))
    generalize (w3.alloc (.cells #[.int .i64 wt, .slice AS s.length cs] 27)) = W1 at B K1 ⊢
    have B_0 := B.cells 0 _ rfl
    have B_1 := B.cells 1 _ rfl
    have B_f0 := B.free 0 (by simp)
    have B_f1 := B.free 1 (by simp)
    have B_t := B.there
    obtain ⟨x, q, hv⟩ := fullV_form L wt s ix
    have HV := Lib.hid hv; clear hv
    have b1 := bne_b x
    have b2 := bne_b q
    go_wp2_with fail
    refine (LiqG.full_impl P cp L wt AS cs s ix _ K1).mono ?_
    rintro e v2 ⟨rfl, hv2⟩
    clear B_0 B_1 B_f0 B_f1 B_t
    replace B := B.more hv2
    replace K1 := Ak.keep K1 hv2
    have zhv2 := hv2.size
    clear hv2
    have B_0 := B.cells 0 _ rfl
    have B_1 := B.cells 1 _ rfl
    have B_f0 := B.free 0 (by simp)
    have B_f1 := B.free 1 (by simp)
    have B_t := B.there
    rw [HV.out]
    go_wp2_with fail
    refine (LiqG.full_spec P cp L wt AS cs s ix _ K1).mono ?_
    rintro e v3 ⟨rfl, hv3⟩
    clear B_0 B_1 B_f0 B_f1 B_t
    replace B := B.more hv3
    replace K1 := Ak.keep K1 hv3
    have zhv3 := hv3.size
    clear hv3
    have B_0 := B.cells 0 _ rfl
    have B_1 := B.cells 1 _ rfl
    have B_f0 := B.free 0 (by simp)
    have B_f1 := B.free 1 (by simp)
    have B_t := B.there
    rw [HV.out]
    go_upto_region 30 with fail
    have HBB := B.below
    have HCB := Lib.hid (HC.out.below HBB)
    clear B B_0 B_1 B_f0 B_f1 B_t K1 b1 b2 HV
    go_wp2_with fail
    refine (DCrys.drawMass A cap zs _ HCB.out).mono ?_
    rintro e w4 ⟨L, P, cp, wt, AS, cs, s, hl, hs, rfl, O, hln, OS, hB⟩
    have HB0 := be HBB hB
    have K1 := DCrys.ak_of O hln OS hl hs
    clear O OS hln hB HBB HCB
    go_wp2_with fail
    have B := Box.new HB0 [.int .i64 wt, .slice AS s.length cs] 27 (g := w4.heap.size) rfl
    replace K1 := Ak.keep K1 (al (Below.refl _ _) (o := (.cells #[.int .i64 wt, .slice AS s.length cs] 27)))
    generalize (w4.alloc (.cells #[.int .i64 wt, .slice AS s.length cs] 27)) = W1 at B K1 ⊢
    have B_0 := B.cells 0 _ rfl
    have B_1 := B.cells 1 _ rfl
    have B_f0 := B.free 0 (by simp)
    have B_f1 := B.free 1 (by simp)
    have B_t := B.there
    obtain ⟨x, q, hv⟩ := massV_form L wt s
    have HV := Lib.hid hv; clear hv
    go_wp2_with fail
    refine (LiqG.mass_impl P cp L wt AS cs s _ K1).mono ?_
    rintro e v2 ⟨rfl, hv2⟩
    clear B_0 B_1 B_f0 B_f1 B_t
    replace B := B.more hv2
    replace K1 := Ak.keep K1 hv2
    have zhv2 := hv2.size
    clear hv2
    have B_0 := B.cells 0 _ rfl
    have B_1 := B.cells 1 _ rfl
    have B_f0 := B.free 0 (by simp)
    have B_f1 := B.free 1 (by simp)
    have B_t := B.there
    rw [HV.out]
    go_wp2_with fail
    refine (LiqG.mass_spec P cp L wt AS cs s _ K1).mono ?_
    rintro e v3 ⟨rfl, hv3⟩
    clear B_0 B_1 B_f0 B_f1 B_t
    replace B := B.more hv3
    replace K1 := Ak.keep K1 hv3
    have zhv3 := hv3.size
    clear hv3
    have B_0 := B.cells 0 _ rfl
    have B_1 := B.cells 1 _ rfl
    have B_f0 := B.free 0 (by simp)
    have B_f1 := B.free 1 (by simp)
    have B_t := B.there
    rw [HV.out]
    go_wp2
    go_ret
    exact ⟨rfl, B.below⟩
end Go.Proofs.Ythilbpklmjpmcaa.CrystalsLaw
