/- Series: AfterPasses. Made by tools/mk_sera2.py. -/
import Derived.Test.YtciohcipmkhneaaSerA
namespace Go.Proofs.Ytciohcipmkhneaa.SerA2
open Go.RowKit Go.Proofs.Ytciohcipmkhneaa.Mem Go.Proofs.Ytciohcipmkhneaa.Base Go.Proofs.Ytciohcipmkhneaa.Within Go.Proofs.Ytciohcipmkhneaa.Brine Go.Proofs.Ytciohcipmkhneaa.Brine6 Go.Proofs.Ytciohcipmkhneaa.Regn Go.Proofs.Ytciohcipmkhneaa.Boxes Go.Proofs.Ytciohcipmkhneaa.Keep Go.Proofs.Ytciohcipmkhneaa.Ser Go.Proofs.Ytciohcipmkhneaa.SerG Go.Proofs.Ytciohcipmkhneaa.SerC Go.Proofs.Ytciohcipmkhneaa.SerQ Go.Proofs.Ytciohcipmkhneaa.SerP Go.Proofs.Ytciohcipmkhneaa.SerT Go.Proofs.Ytciohcipmkhneaa.SerA
open Go.Proofs.Ytciohcipmkhneaa.SBasin hiding RPost rpost
set_option linter.unusedVariables false
set_option linter.unusedSimpArgs false
set_option maxRecDepth 100000
/-- behind k passes of t. -/
structure At (l : List R) (p q n : Int) (t k : Nat) (s : St) : Prop where
  all : Ser.iter n t ⟨l, p, q⟩ = Ser.iter n (t - k) s
  good : good s.l = true
  ok : okB s.p s.q = true
  len : s.l.length = l.length
theorem At.start {l : List R} {p q n : Int} (t : Nat) (hg : Ser.good l = true) (hp : okB p q = true) : At l p q n t 0 ⟨l, p, q⟩ := ⟨rfl, hg, hp, rfl⟩
theorem At.next {l : List R} {p q n : Int} {t k : Nat} {s : St} (h : At l p q n t k s) (hk : k < t) (hs : stepOk s.l s.p s.q n = true) : At l p q n t (k + 1) ⟨passL s.l n, s.p + outW s.l n, s.q + outS s.l n⟩ := by
  refine ⟨?_, (stepOk_good hs).1, (stepOk_good hs).2, (pass_len _ _).trans h.len⟩
  rw [h.all, show t - k = (t - (k + 1)) + 1 by omega]
  exact iter_next (step_yes hs)
theorem At.fail {l : List R} {p q n : Int} {t k : Nat} {s : St} (h : At l p q n t k s) (hk : k < t) (hs : stepOk s.l s.p s.q n = false) : Ser.iter n t ⟨l, p, q⟩ = none := by
  rw [h.all, show t - k = (t - (k + 1)) + 1 by omega]
  exact iter_fail (step_no hs)
theorem At.done {l : List R} {p q n : Int} {t k : Nat} {s : St} (h : At l p q n t k s) (hk : t ≤ k) : Ser.iter n t ⟨l, p, q⟩ = some s := by
  rw [h.all, show t - k = 0 by omega]; rfl
set_option maxHeartbeats 3200000 in
theorem run_spec (P : Option Addr) (cap : Nat) (l : List R) (p q n t : Int) (w : World) (hr : Rd w w.heap.size P (flat l)) (hn : l.length ≤ 1048576) :
    Calls Try.prog 26 #[.slice P l.length cap, .agg #[.int .i64 p, .int .i64 q], .int .i64 n, .int .i64 t] w (Row3 (runS l p q n t).l (runS l p q n t).p (runS l p q n t).q (runOk l p q n t) w) := by
  have HR := Lib.hid hr; clear hr
  go_enter Try.func26, Try.ntmps26
  go_wp2_with fail
  have N := (Box.new (Below.refl _ w) [.int .i64 p, .int .i64 q] 26 (g := w.heap.size) rfl).alloc (.cells #[.int .i64 0, .int .i64 0] 26)
  have R := Box.new (al (Below.refl _ w) (o := (.cells #[.int .i64 p, .int .i64 q] 26))) [.int .i64 0, .int .i64 0] 26 (g := w.heap.size + 1) (by simp only [size_alloc'])
  generalize ((w.alloc (.cells #[.int .i64 p, .int .i64 q] 26)).alloc (.cells #[.int .i64 0, .int .i64 0] 26)) = W1 at N R ⊢
  have N_0 := N.cells 0 _ rfl
  have N_1 := N.cells 1 _ rfl
  have N_f0 := N.free 0 (by simp)
  have N_f1 := N.free 1 (by simp)
  have N_t := N.there
  have R_0 := R.cells 0 _ rfl
  have R_1 := R.cells 1 _ rfl
  have R_f0 := R.free 0 (by simp)
  have R_f1 := R.free 1 (by simp)
  have R_t := R.there
  go_wp2_with fail
  refine (good_spec P cap l _ (rd_keep HR.out N.below) hn).mono ?_
  rintro e v2 ⟨rfl, hv2⟩
  clear N_0 N_1 N_f0 N_f1 N_t
  clear R_0 R_1 R_f0 R_f1 R_t
  replace N := N.more hv2
  replace R := R.more hv2
  have zhv2 := hv2.size
  clear hv2
  have N_0 := N.cells 0 _ rfl
  have N_1 := N.cells 1 _ rfl
  have N_f0 := N.free 0 (by simp)
  have N_f1 := N.free 1 (by simp)
  have N_t := N.there
  have R_0 := R.cells 0 _ rfl
  have R_1 := R.cells 1 _ rfl
  have R_f0 := R.free 0 (by simp)
  have R_f1 := R.free 1 (by simp)
  have R_t := R.there
  cases hg : good l
  · have HV := Lib.hid (run1 (p := p) (q := q) (n := n) (t := t) hg)
    obtain ⟨r0, r1, ro, rb⟩ := fail3 R
    go_wp2
    exact bodyPost_ret (v := .tuple #[.slice (some ⟨v2.heap.size, 0, none⟩) 0 0, .agg #[.int .i64 0, .int .i64 0], .bool false]) (by simp [results, Try.results26, go_sem, r0.out, r1.out]) rfl (row3 (M := []) (by rw [runS_no HV.out]) (by rw [runS_no HV.out]) (by rw [runS_no HV.out]) HV.out rfl ro.out rb.out)
  have HG := Lib.hid hg; clear hg
  go_wp2_with fail
  refine (brine_spec p q _).mono ?_
  rintro e v3 ⟨rfl, hv3⟩
  clear N_0 N_1 N_f0 N_f1 N_t
  clear R_0 R_1 R_f0 R_f1 R_t
  replace N := N.more hv3
  replace R := R.more hv3
  have zhv3 := hv3.size
  clear hv3
  have N_0 := N.cells 0 _ rfl
  have N_1 := N.cells 1 _ rfl
  have N_f0 := N.free 0 (by simp)
  have N_f1 := N.free 1 (by simp)
  have N_t := N.there
  have R_0 := R.cells 0 _ rfl
  have R_1 := R.cells 1 _ rfl
  have R_f0 := R.free 0 (by simp)
  have R_f1 := R.free 1 (by simp)
  have R_t := R.there
  cases hp : okB p q
  · have HV := Lib.hid (run2 (l := l) (n := n) (t := t) hp)
    obtain ⟨r0, r1, ro, rb⟩ := fail3 R
    go_wp2
    exact bodyPost_ret (v := .tuple #[.slice (some ⟨v3.heap.size, 0, none⟩) 0 0, .agg #[.int .i64 0, .int .i64 0], .bool false]) (by simp [results, Try.results26, go_sem, r0.out, r1.out]) rfl (row3 (M := []) (by rw [runS_no HV.out]) (by rw [runS_no HV.out]) (by rw [runS_no HV.out]) HV.out rfl ro.out rb.out)
  have HP := Lib.hid hp; clear hp
  by_cases hn1 : 1 ≤ n
  · have d1 : decide (n < 1) = false := decide_eq_false (by omega)
    go_wp2_with fail
    refine (in_any _ _ _ _).mono ?_
    rintro e _ ⟨rfl, rfl⟩
    cases ht : inB t 0 100
    · have HV := Lib.hid (run4 (l := l) (p := p) (q := q) (n := n) ht)
      clear ht
      obtain ⟨r0, r1, ro, rb⟩ := fail3 R
      go_wp2
      exact bodyPost_ret (v := .tuple #[.slice (some ⟨v3.heap.size, 0, none⟩) 0 0, .agg #[.int .i64 0, .int .i64 0], .bool false]) (by simp [results, Try.results26, go_sem, r0.out, r1.out]) rfl (row3 (M := []) (by rw [runS_no HV.out]) (by rw [runS_no HV.out]) (by rw [runS_no HV.out]) HV.out rfl ro.out rb.out)
    obtain ⟨tn, rfl⟩ : ∃ m : Nat, t = m := ⟨t.toNat, by have := of_inB ht; omega⟩
    have ht100 : tn ≤ 100 := by have := of_inB ht; omega
    have HT := Lib.hid ht; clear ht
    obtain ⟨g1, g8, _⟩ := good_all HG.out
    have hN8 := N.below.size
    have hR8 := R.there
    go_wp2_with fail
    refine (own_spec P cap l _ (rd_keep HR.out N.below) g1 hn).mono ?_
    rintro e v5 ⟨g, c, rfl, O, hv5⟩
    clear N_0 N_1 N_f0 N_f1 N_t
    clear R_0 R_1 R_f0 R_f1 R_t
    replace N := N.more hv5
    replace R := R.more hv5
    have zhv5 := hv5.size
    clear hv5
    have N_0 := N.cells 0 _ rfl
    have N_1 := N.cells 1 _ rfl
    have N_f0 := N.free 0 (by simp)
    have N_f1 := N.free 1 (by simp)
    have N_t := N.there
    have R_0 := R.cells 0 _ rfl
    have R_1 := R.cells 1 _ rfl
    have R_f0 := R.free 0 (by simp)
    have R_f1 := R.free 1 (by simp)
    have R_t := R.there
    have hgu := O.ge
    replace O := O.base hN8
    have hgR : w.heap.size + 1 < g := by omega
    clear N_0 N_1 N_f0 N_f1 N_t
    clear R_0 R_1 R_f0 R_f1 R_t
    clear hgu hN8 hR8
    have hNN := N.base
    go_wp2
    go_loopw [11, 12] (fun sl i wr => ∃ (k g c : Nat) (s : St), k ≤ tn ∧ i = .int .i64 k ∧ sl = .slice (some ⟨g, 0, none⟩) s.l.length c ∧ w.heap.size + 1 < g ∧ Hid (At l p q n tn k s) ∧ Own wr w.heap.size g c s.l ∧ Box w.heap.size [.int .i64 s.p, .int .i64 s.q] w wr ∧ Box (w.heap.size + 1) [.int .i64 0, .int .i64 0] w wr) (fun _ i _ => tn - (intOf i).toNat)
    case atStart => exact ⟨0, g, c, ⟨l, p, q⟩, Nat.zero_le _, rfl, rfl, hgR, Lib.hid (At.start tn HG.out HP.out), O, N, R⟩
    case round =>
      clear O N R hgR
      obtain ⟨k, g0, c0, s, hk, rfl, rfl, hgR, HA, O, N, R⟩ := hrel
      obtain ⟨sl, sp, sq⟩ := s
      dsimp only at O N ⊢
      have N_0 := N.cells 0 _ rfl
      have N_1 := N.cells 1 _ rfl
      have N_f0 := N.free 0 (by simp)
      have N_f1 := N.free 1 (by simp)
      have N_t := N.there
      have R_0 := R.cells 0 _ rfl
      have R_1 := R.cells 1 _ rfl
      have R_f0 := R.free 0 (by simp)
      have R_f1 := R.free 1 (by simp)
      have R_t := R.there
      have hng : w.heap.size + 1 ≠ g0 := by omega
      by_cases hlt : k < tn
      · have HLT := Lib.hid hlt
        have hl8 : sl.length ≤ 8 := (good_all HA.out.good).2.1
        have hN8 := N.below.size
        have hR8 := R.there
        go_wp2_with fail
        refine (pass_spec (some ⟨g0, 0, none⟩) c0 sl sp sq n _ O.rd HA.out.good HA.out.ok hn1).mono ?_
        rintro e v1 ⟨g2, c2, rfl, O2, hv1⟩
        clear N_0 N_1 N_f0 N_f1 N_t
        clear R_0 R_1 R_f0 R_f1 R_t
        replace N := N.more hv1
        replace R := R.more hv1
        replace O := Own.keep O hv1
        have zhv1 := hv1.size
        clear hv1
        have N_0 := N.cells 0 _ rfl
        have N_1 := N.cells 1 _ rfl
        have N_f0 := N.free 0 (by simp)
        have N_f1 := N.free 1 (by simp)
        have N_t := N.there
        have R_0 := R.cells 0 _ rfl
        have R_1 := R.cells 1 _ rfl
        have R_f0 := R.free 0 (by simp)
        have R_f1 := R.free 1 (by simp)
        have R_t := R.there
        have hgu := O2.ge
        have hgR2 : w.heap.size + 1 < g2 := by omega
        replace O2 := O2.base hN8
        have HPL := Lib.hid (pass_len sl n)
        obtain ⟨x, hx⟩ : ∃ x, sp + outW sl n = x := ⟨_, rfl⟩
        obtain ⟨y, hy⟩ : ∃ y, sq + outS sl n = y := ⟨_, rfl⟩
        rw [hx, hy]
        clear hgu hN8 hR8
        cases hs : stepOk sl sp sq n
        · have HV := Lib.hid (run5 (t := (tn : Int)) (by rw [Int.toNat_natCast]; exact HA.out.fail HLT.out hs))
          clear hs hx hy
          go_upto_region 8 with fail
          have N_t2 := N.there
          have R_t2 := R.there
          have E := Box.new N.below [.int .i64 x, .int .i64 y] 26 (g := v1.heap.size) rfl
          clear N_0 N_1 N_f0 N_f1 N_t
          replace N := (N).alloc (.cells #[.int .i64 x, .int .i64 y] 26)
          clear R_0 R_1 R_f0 R_f1 R_t
          replace R := (R).alloc (.cells #[.int .i64 x, .int .i64 y] 26)
          replace O := Own.keep O (al (Below.refl _ _) (o := (.cells #[.int .i64 x, .int .i64 y] 26)))
          generalize (v1.alloc (.cells #[.int .i64 x, .int .i64 y] 26)) = W2 at E N R O ⊢
          have N_0 := N.cells 0 _ rfl
          have N_1 := N.cells 1 _ rfl
          have N_f0 := N.free 0 (by simp)
          have N_f1 := N.free 1 (by simp)
          have N_t := N.there
          have R_0 := R.cells 0 _ rfl
          have R_1 := R.cells 1 _ rfl
          have R_f0 := R.free 0 (by simp)
          have R_f1 := R.free 1 (by simp)
          have R_t := R.there
          have E_0 := E.cells 0 _ rfl
          have E_1 := E.cells 1 _ rfl
          have E_f0 := E.free 0 (by simp)
          have E_f1 := E.free 1 (by simp)
          have E_t := E.there
          obtain ⟨r0, r1, ro, rb⟩ := fail3 R
          go_wp2
          exact bodyPost_ret (v := .tuple #[.slice (some ⟨W2.heap.size, 0, none⟩) 0 0, .agg #[.int .i64 0, .int .i64 0], .bool false]) (by simp [results, Try.results26, go_sem, r0.out, r1.out]) rfl (row3 (M := []) (by rw [runS_no HV.out]) (by rw [runS_no HV.out]) (by rw [runS_no HV.out]) HV.out rfl ro.out rb.out)
        · have HA2 := Lib.hid (HA.out.next HLT.out hs)
          have HXY := Lib.hid (And.intro hx hy)
          clear hs hx hy hng
          clear O
          go_upto_region 8 with fail
          have N_t3 := N.there
          have R_t3 := R.there
          have E := Box.new N.below [.int .i64 x, .int .i64 y] 26 (g := v1.heap.size) rfl
          clear N_0 N_1 N_f0 N_f1 N_t
          replace N := (N).alloc (.cells #[.int .i64 x, .int .i64 y] 26)
          clear R_0 R_1 R_f0 R_f1 R_t
          replace R := (R).alloc (.cells #[.int .i64 x, .int .i64 y] 26)
          replace O2 := Own.keep O2 (al (Below.refl _ _) (o := (.cells #[.int .i64 x, .int .i64 y] 26)))
          generalize (v1.alloc (.cells #[.int .i64 x, .int .i64 y] 26)) = W3 at E N R O2 ⊢
          have N_0 := N.cells 0 _ rfl
          have N_1 := N.cells 1 _ rfl
          have N_f0 := N.free 0 (by simp)
          have N_f1 := N.free 1 (by simp)
          have N_t := N.there
          have R_0 := R.cells 0 _ rfl
          have R_1 := R.cells 1 _ rfl
          have R_f0 := R.free 0 (by simp)
          have R_f1 := R.free 1 (by simp)
          have R_t := R.there
          have E_0 := E.cells 0 _ rfl
          have E_1 := E.cells 1 _ rfl
          have E_f0 := E.free 0 (by simp)
          have E_f1 := E.free 1 (by simp)
          have E_t := E.there
          have hng2 : w.heap.size ≠ g2 := by omega
          have hnw : w.heap.size ≠ w.heap.size + 1 := by omega
          have HO3 := Lib.hid ((O2.far hng2 0 (.int .i64 x)).far hng2 1 (.int .i64 y))
          have HN3 := Lib.hid ((N.set 0 (.int .i64 x)).set 1 (.int .i64 y))
          have HR3 := Lib.hid ((R.far (Nat.le_refl _) hnw 0 (.int .i64 x)).far (Nat.le_refl _) hnw 1 (.int .i64 y))
          clear O2
          go_wp2
          go_roundw
          case rel => exact ⟨k + 1, g2, c2, ⟨passL sl n, sp + outW sl n, sq + outS sl n⟩, by omega, by go_num, by rw [HPL.out], hgR2, HA2, HO3.out, by rw [HXY.out.1, HXY.out.2]; exact HN3.out, HR3.out⟩
          case measure => simp [intOf]; omega
      · have HRR := Lib.hid (run6 HG.out HP.out hn1 HT.out (by rw [Int.toNat_natCast]; exact HA.out.done (by omega)))
        go_wp2_with fail
        refine wp_region_seq (fun L w' => Box (w.heap.size) [.int .i64 sp, .int .i64 sq] w w' ∧ BoxL (L 3) (w.heap.size + 1) [.int .i64 0, .int .i64 0] [.int .i64 sp, .int .i64 sq] w w' ∧ Own w' w.heap.size g0 c0 sl) (by kernel_rfl) (by kernel_rfl) ⟨N.drew, BoxL.start _ R.drew, Own.keep O (Below.refl _ _).drew⟩ ?_
        clear N_0 N_1 N_f0 N_f1 N_t
        clear R_0 R_1 R_f0 R_f1 R_t
        iterate 5 (
          apply SeqH.op
          · intro L uw K hN hS hK
            obtain ⟨qN, qR, qO⟩ := hS
            have qN_0 := qN.cells 0 _ rfl
            have qN_1 := qN.cells 1 _ rfl
            try (have hh0 := qR.2 (hN.out.1 3 (by decide +kernel)); have qR_0 := hh0.cells 0 _ rfl; have qR_1 := hh0.cells 1 _ rfl; clear hh0)
            clear hN
            first
              | (go_simp; exact hK.out _ ⟨qN, (qR).skip (by decide), qO⟩)
              | (rcases qR.two with hh | hh <;> (have h0 := hh.cells 0 _ rfl; have k0 := hh.free 0 (by simp); have h1 := hh.cells 1 _ rfl; have k1 := hh.free 1 (by simp); go_simp; exact hK.out _ ⟨((qN.far hh.base (by omega) 0 (.int .i64 sp)).far hh.base (by omega) 1 (.int .i64 sq)), BoxL.put ((hh.set 0 (.int .i64 sp)).set 1 (.int .i64 sq)), ((qO.far (by omega) 0 (.int .i64 sp)).far (by omega) 1 (.int .i64 sq))⟩))
          try simp only [Act.put, List.setIfInBounds_toArray, List.set_cons_zero, List.set_cons_succ])
        refine SeqH.done rfl ?_
        intro L v4 hL hS
        clear N R O
        obtain ⟨N, R, O⟩ := hS
        replace R := R.done (hL 3 (by decide))
        clear hL
        have N_0 := N.cells 0 _ rfl
        have N_1 := N.cells 1 _ rfl
        have N_f0 := N.free 0 (by simp)
        have N_f1 := N.free 1 (by simp)
        have N_t := N.there
        have R_0 := R.cells 0 _ rfl
        have R_1 := R.cells 1 _ rfl
        have R_f0 := R.free 0 (by simp)
        have R_f1 := R.free 1 (by simp)
        have R_t := R.there
        go_wp2
        exact bodyPost_ret (v := .tuple #[.slice (some ⟨g0, 0, none⟩) sl.length c0, .agg #[.int .i64 sp, .int .i64 sq], .bool true]) (by simp [results, Try.results26, go_sem, R_0, R_1]) rfl (row3 (M := sl) (by rw [HRR.out.2]) (by rw [HRR.out.2]) (by rw [HRR.out.2]) HRR.out.1 rfl O R.below)
  · have d1 : decide (n < 1) = true := decide_eq_true (by omega)
    have HV := Lib.hid (run3 (l := l) (p := p) (q := q) (t := t) hn1)
    clear hn1
    obtain ⟨r0, r1, ro, rb⟩ := fail3 R
    go_wp2
    exact bodyPost_ret (v := .tuple #[.slice (some ⟨v3.heap.size, 0, none⟩) 0 0, .agg #[.int .i64 0, .int .i64 0], .bool false]) (by simp [results, Try.results26, go_sem, r0.out, r1.out]) rfl (row3 (M := []) (by rw [runS_no HV.out]) (by rw [runS_no HV.out]) (by rw [runS_no HV.out]) HV.out rfl ro.out rb.out)
end Go.Proofs.Ytciohcipmkhneaa.SerA2
