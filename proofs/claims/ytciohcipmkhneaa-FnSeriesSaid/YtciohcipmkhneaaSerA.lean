/- Series: AfterPass and AfterPasses. -/
import Derived.Test.YtciohcipmkhneaaSerT
namespace Go.Proofs.Ytciohcipmkhneaa.SerA
open Go.RowKit Go.Proofs.Ytciohcipmkhneaa.Mem Go.Proofs.Ytciohcipmkhneaa.Base Go.Proofs.Ytciohcipmkhneaa.Within Go.Proofs.Ytciohcipmkhneaa.Brine Go.Proofs.Ytciohcipmkhneaa.Brine6 Go.Proofs.Ytciohcipmkhneaa.Regn Go.Proofs.Ytciohcipmkhneaa.Boxes Go.Proofs.Ytciohcipmkhneaa.Keep Go.Proofs.Ytciohcipmkhneaa.Ser Go.Proofs.Ytciohcipmkhneaa.SerG Go.Proofs.Ytciohcipmkhneaa.SerC Go.Proofs.Ytciohcipmkhneaa.SerQ Go.Proofs.Ytciohcipmkhneaa.SerP Go.Proofs.Ytciohcipmkhneaa.SerT
open Go.Proofs.Ytciohcipmkhneaa.SBasin hiding RPost rpost
set_option linter.unusedVariables false
set_option linter.unusedSimpArgs false
set_option maxRecDepth 100000
theorem fail3 {p : Nat} {w W : World} {a b : Value} (R : Box p [a, b] w W) :
    Hid ((((W.setCell ⟨p, 0, none⟩ (.int .i64 0)).setCell ⟨p, 1, none⟩ (.int .i64 0)).alloc (.cells #[] 50)).cell? ⟨p, 0, none⟩ = some (.int .i64 0)) ∧
    Hid ((((W.setCell ⟨p, 0, none⟩ (.int .i64 0)).setCell ⟨p, 1, none⟩ (.int .i64 0)).alloc (.cells #[] 50)).cell? ⟨p, 1, none⟩ = some (.int .i64 0)) ∧
    Hid ((((W.setCell ⟨p, 0, none⟩ (.int .i64 0)).setCell ⟨p, 1, none⟩ (.int .i64 0)).alloc (.cells #[] 50)).ownsRow w.heap.size 50 3 (.slice (some ⟨W.heap.size, 0, none⟩) 0 0) 0 (flat [])) ∧
    Hid (Below w.heap.size w (((W.setCell ⟨p, 0, none⟩ (.int .i64 0)).setCell ⟨p, 1, none⟩ (.int .i64 0)).alloc (.cells #[] 50))) := by
  have R2 := (R.set 0 (.int .i64 0)).set 1 (.int .i64 0)
  have hs : ((W.setCell ⟨p, 0, none⟩ (.int .i64 0)).setCell ⟨p, 1, none⟩ (.int .i64 0)).heap.size = W.heap.size := by rw [size_set', size_set']
  have R3 := R2.alloc (.cells #[] 50)
  have O := empty_own R2.below
  rw [hs] at O
  exact ⟨R3.cells 0 _ rfl, R3.cells 1 _ rfl, O, R3.below⟩
theorem run_at1 {l : List R} {p q n : Int} (hg : good l = true) (hp : okB p q = true) (hn : 1 ≤ n) : runOk l p q n 1 = stepOk l p q n := by
  have e : Ser.iter n 1 ⟨l, p, q⟩ = Ser.step n ⟨l, p, q⟩ := by
    cases h : Ser.step n ⟨l, p, q⟩ with
    | none => exact iter_fail h
    | some t => exact (iter_next h).trans rfl
  have e2 : inB 1 0 100 = true := inB_true (by omega)
  have e3 : (1 : Int).toNat = 1 := rfl
  unfold runOk
  rw [hg, hp, decide_eq_true hn, e2, e3, e]
  cases h : stepOk l p q n
  · rw [step_no h]; rfl
  · rw [step_yes h]; rfl
theorem runS_at1 {l : List R} {p q n : Int} (hg : good l = true) (hp : okB p q = true) (hn : 1 ≤ n) (h : stepOk l p q n = true) : runS l p q n 1 = ⟨passL l n, p + outW l n, q + outS l n⟩ := by
  refine (run6 hg hp hn (inB_true (by omega)) ?_).2
  have e3 : (1 : Int).toNat = 1 := rfl
  rw [e3, iter_next (step_yes h)]; rfl
set_option maxHeartbeats 1600000 in
theorem one_spec (P : Option Addr) (cap : Nat) (l : List R) (p q n : Int) (w : World) (hr : Rd w w.heap.size P (flat l)) (hn : l.length ≤ 1048576) :
    Calls Try.prog 19 #[.slice P l.length cap, .agg #[.int .i64 p, .int .i64 q], .int .i64 n] w (Row3 (runS l p q n 1).l (runS l p q n 1).p (runS l p q n 1).q (runOk l p q n 1) w) := by
  have HR := Lib.hid hr; clear hr
  go_enter Try.func19, Try.ntmps19
  go_wp2_with fail
  have N := (Box.new (Below.refl _ w) [.int .i64 p, .int .i64 q] 26 (g := w.heap.size) rfl).alloc (.cells #[.int .i64 0, .int .i64 0] 26)
  have R := Box.new (al (Below.refl _ w) (o := (.cells #[.int .i64 p, .int .i64 q] 26))) [.int .i64 0, .int .i64 0] 26 (g := w.heap.size + 1) (by simp only [size_alloc'])
  generalize ((w.alloc (.cells #[.int .i64 p, .int .i64 q] 26)).alloc (.cells #[.int .i64 0, .int .i64 0] 26)) = W1 at N R ⊢
  have N_0 := N.cells 0 _ rfl
  have N_1 := N.cells 1 _ rfl
  have N_f0 := N.free 0 (by simp)
  have N_f1 := N.free 1 (by simp)
  have N_t := N.there
  have R_0 := R.cells 0 _ rfl
  have R_1 := R.cells 1 _ rfl
  have R_f0 := R.free 0 (by simp)
  have R_f1 := R.free 1 (by simp)
  have R_t := R.there
  go_wp2_with fail
  refine (good_spec P cap l _ (rd_keep HR.out N.below) hn).mono ?_
  rintro e v2 ⟨rfl, hv2⟩
  clear N_0 N_1 N_f0 N_f1 N_t
  clear R_0 R_1 R_f0 R_f1 R_t
  replace N := N.more hv2
  replace R := R.more hv2
  have zhv2 := hv2.size
  clear hv2
  have N_0 := N.cells 0 _ rfl
  have N_1 := N.cells 1 _ rfl
  have N_f0 := N.free 0 (by simp)
  have N_f1 := N.free 1 (by simp)
  have N_t := N.there
  have R_0 := R.cells 0 _ rfl
  have R_1 := R.cells 1 _ rfl
  have R_f0 := R.free 0 (by simp)
  have R_f1 := R.free 1 (by simp)
  have R_t := R.there
  cases hg : good l
  · have HV := Lib.hid (run1 (p := p) (q := q) (n := n) (t := 1) hg)
    obtain ⟨r0, r1, ro, rb⟩ := fail3 R
    go_wp2
    exact bodyPost_ret (v := .tuple #[.slice (some ⟨v2.heap.size, 0, none⟩) 0 0, .agg #[.int .i64 0, .int .i64 0], .bool false]) (by simp [results, Try.results19, go_sem, r0.out, r1.out]) rfl (row3 (M := []) (by rw [runS_no HV.out]) (by rw [runS_no HV.out]) (by rw [runS_no HV.out]) HV.out rfl ro.out rb.out)
  have HG := Lib.hid hg; clear hg
  go_wp2_with fail
  refine (brine_spec p q _).mono ?_
  rintro e v3 ⟨rfl, hv3⟩
  clear N_0 N_1 N_f0 N_f1 N_t
  clear R_0 R_1 R_f0 R_f1 R_t
  replace N := N.more hv3
  replace R := R.more hv3
  have zhv3 := hv3.size
  clear hv3
  have N_0 := N.cells 0 _ rfl
  have N_1 := N.cells 1 _ rfl
  have N_f0 := N.free 0 (by simp)
  have N_f1 := N.free 1 (by simp)
  have N_t := N.there
  have R_0 := R.cells 0 _ rfl
  have R_1 := R.cells 1 _ rfl
  have R_f0 := R.free 0 (by simp)
  have R_f1 := R.free 1 (by simp)
  have R_t := R.there
  cases hp : okB p q
  · have HV := Lib.hid (run2 (l := l) (n := n) (t := 1) hp)
    obtain ⟨r0, r1, ro, rb⟩ := fail3 R
    go_wp2
    exact bodyPost_ret (v := .tuple #[.slice (some ⟨v3.heap.size, 0, none⟩) 0 0, .agg #[.int .i64 0, .int .i64 0], .bool false]) (by simp [results, Try.results19, go_sem, r0.out, r1.out]) rfl (row3 (M := []) (by rw [runS_no HV.out]) (by rw [runS_no HV.out]) (by rw [runS_no HV.out]) HV.out rfl ro.out rb.out)
  have HP := Lib.hid hp; clear hp
  by_cases hn1 : 1 ≤ n
  · have d1 : decide (n < 1) = false := decide_eq_false (by omega)
    have HRO := Lib.hid (run_at1 HG.out HP.out hn1)
    have hN8 := N.below.size
    have hR8 := R.there
    go_wp2_with fail
    refine (pass_spec P cap l p q n _ (rd_keep HR.out N.below) HG.out HP.out hn1).mono ?_
    rintro e v4 ⟨g, c, rfl, O, hv4⟩
    clear N_0 N_1 N_f0 N_f1 N_t
    clear R_0 R_1 R_f0 R_f1 R_t
    replace N := N.more hv4
    replace R := R.more hv4
    have zhv4 := hv4.size
    clear hv4
    have N_0 := N.cells 0 _ rfl
    have N_1 := N.cells 1 _ rfl
    have N_f0 := N.free 0 (by simp)
    have N_f1 := N.free 1 (by simp)
    have N_t := N.there
    have R_0 := R.cells 0 _ rfl
    have R_1 := R.cells 1 _ rfl
    have R_f0 := R.free 0 (by simp)
    have R_f1 := R.free 1 (by simp)
    have R_t := R.there
    have hgu := O.ge
    have hng : w.heap.size + 1 ≠ g := by omega
    replace O := O.base hN8
    have hpl := pass_len l n
    obtain ⟨x, hx⟩ : ∃ x, p + outW l n = x := ⟨_, rfl⟩
    obtain ⟨y, hy⟩ : ∃ y, q + outS l n = y := ⟨_, rfl⟩
    rw [hx, hy]
    cases hs : stepOk l p q n
    · rw [hs] at HRO
      have HV := Lib.hid (show runOk l p q n 1 = false from HRO.out)
      go_upto_region 4 with fail
      clear hx hy
      have N_t5 := N.there
      have R_t5 := R.there
      have E := Box.new N.below [.int .i64 x, .int .i64 y] 26 (g := v4.heap.size) rfl
      clear N_0 N_1 N_f0 N_f1 N_t
      replace N := (N).alloc (.cells #[.int .i64 x, .int .i64 y] 26)
      clear R_0 R_1 R_f0 R_f1 R_t
      replace R := (R).alloc (.cells #[.int .i64 x, .int .i64 y] 26)
      generalize (v4.alloc (.cells #[.int .i64 x, .int .i64 y] 26)) = W5 at E N R ⊢
      have N_0 := N.cells 0 _ rfl
      have N_1 := N.cells 1 _ rfl
      have N_f0 := N.free 0 (by simp)
      have N_f1 := N.free 1 (by simp)
      have N_t := N.there
      have R_0 := R.cells 0 _ rfl
      have R_1 := R.cells 1 _ rfl
      have R_f0 := R.free 0 (by simp)
      have R_f1 := R.free 1 (by simp)
      have R_t := R.there
      have E_0 := E.cells 0 _ rfl
      have E_1 := E.cells 1 _ rfl
      have E_f0 := E.free 0 (by simp)
      have E_f1 := E.free 1 (by simp)
      have E_t := E.there
      obtain ⟨r0, r1, ro, rb⟩ := fail3 R
      go_wp2
      exact bodyPost_ret (v := .tuple #[.slice (some ⟨W5.heap.size, 0, none⟩) 0 0, .agg #[.int .i64 0, .int .i64 0], .bool false]) (by simp [results, Try.results19, go_sem, r0.out, r1.out]) rfl (row3 (M := []) (by rw [runS_no HV.out]) (by rw [runS_no HV.out]) (by rw [runS_no HV.out]) HV.out rfl ro.out rb.out)
    · have HRS := Lib.hid (runS_at1 HG.out HP.out hn1 hs)
      rw [hs] at HRO
      have HV := Lib.hid (show runOk l p q n 1 = true from HRO.out)
      rw [hx, hy] at HRS
      have HPL := Lib.hid hpl
      clear hpl hs hx hy
      go_upto_region 4 with fail
      have N_t6 := N.there
      have R_t6 := R.there
      have E := Box.new N.below [.int .i64 x, .int .i64 y] 26 (g := v4.heap.size) rfl
      clear N_0 N_1 N_f0 N_f1 N_t
      replace N := (N).alloc (.cells #[.int .i64 x, .int .i64 y] 26)
      clear R_0 R_1 R_f0 R_f1 R_t
      replace R := (R).alloc (.cells #[.int .i64 x, .int .i64 y] 26)
      replace O := Own.keep O (al (Below.refl _ _) (o := (.cells #[.int .i64 x, .int .i64 y] 26)))
      generalize (v4.alloc (.cells #[.int .i64 x, .int .i64 y] 26)) = W6 at E N R O ⊢
      have N_0 := N.cells 0 _ rfl
      have N_1 := N.cells 1 _ rfl
      have N_f0 := N.free 0 (by simp)
      have N_f1 := N.free 1 (by simp)
      have N_t := N.there
      have R_0 := R.cells 0 _ rfl
      have R_1 := R.cells 1 _ rfl
      have R_f0 := R.free 0 (by simp)
      have R_f1 := R.free 1 (by simp)
      have R_t := R.there
      have E_0 := E.cells 0 _ rfl
      have E_1 := E.cells 1 _ rfl
      have E_f0 := E.free 0 (by simp)
      have E_f1 := E.free 1 (by simp)
      have E_t := E.there
      go_wp2_with fail
      refine wp_region_seq (fun L w' => Box (w.heap.size) [.int .i64 p, .int .i64 q] w w' ∧ BoxL (L 3) (w.heap.size + 1) [.int .i64 0, .int .i64 0] [.int .i64 x, .int .i64 y] w w' ∧ Box (v4.heap.size) [.int .i64 x, .int .i64 y] w w' ∧ Own w' w.heap.size g c (passL l n)) (by kernel_rfl) (by kernel_rfl) ⟨N.drew, BoxL.start _ R.drew, E.drew, Own.keep O (Below.refl _ _).drew⟩ ?_
      clear N_0 N_1 N_f0 N_f1 N_t
      clear R_0 R_1 R_f0 R_f1 R_t
      clear E_0 E_1 E_f0 E_f1 E_t
      iterate 5 (
        apply SeqH.op
        · intro L uw K hN hS hK
          obtain ⟨qN, qR, qE, qO⟩ := hS
          have qN_0 := qN.cells 0 _ rfl
          have qN_1 := qN.cells 1 _ rfl
          try (have hh0 := qR.2 (hN.out.1 3 (by decide +kernel)); have qR_0 := hh0.cells 0 _ rfl; have qR_1 := hh0.cells 1 _ rfl; clear hh0)
          have qE_0 := qE.cells 0 _ rfl
          have qE_1 := qE.cells 1 _ rfl
          clear hN
          first
            | (go_simp; exact hK.out _ ⟨qN, (qR).skip (by decide), qE, qO⟩)
            | (rcases qR.two with hh | hh <;> (have h0 := hh.cells 0 _ rfl; have k0 := hh.free 0 (by simp); have h1 := hh.cells 1 _ rfl; have k1 := hh.free 1 (by simp); go_simp; exact hK.out _ ⟨((qN.far hh.base (by omega) 0 (.int .i64 x)).far hh.base (by omega) 1 (.int .i64 y)), BoxL.put ((hh.set 0 (.int .i64 x)).set 1 (.int .i64 y)), ((qE.far hh.base (by omega) 0 (.int .i64 x)).far hh.base (by omega) 1 (.int .i64 y)), ((qO.far (by omega) 0 (.int .i64 x)).far (by omega) 1 (.int .i64 y))⟩))
        try simp only [Act.put, List.setIfInBounds_toArray, List.set_cons_zero, List.set_cons_succ])
      refine SeqH.done rfl ?_
      intro L v7 hL hS
      clear N R E O
      obtain ⟨N, R, E, O⟩ := hS
      replace R := R.done (hL 3 (by decide))
      clear hL
      have N_0 := N.cells 0 _ rfl
      have N_1 := N.cells 1 _ rfl
      have N_f0 := N.free 0 (by simp)
      have N_f1 := N.free 1 (by simp)
      have N_t := N.there
      have R_0 := R.cells 0 _ rfl
      have R_1 := R.cells 1 _ rfl
      have R_f0 := R.free 0 (by simp)
      have R_f1 := R.free 1 (by simp)
      have R_t := R.there
      have E_0 := E.cells 0 _ rfl
      have E_1 := E.cells 1 _ rfl
      have E_f0 := E.free 0 (by simp)
      have E_f1 := E.free 1 (by simp)
      have E_t := E.there
      go_wp2
      exact bodyPost_ret (v := .tuple #[.slice (some ⟨g, 0, none⟩) l.length c, .agg #[.int .i64 x, .int .i64 y], .bool true]) (by simp [results, Try.results19, go_sem, R_0, R_1]) rfl (row3 (M := passL l n) (by rw [HRS.out]) (by rw [HRS.out]) (by rw [HRS.out]) HV.out (by rw [HPL.out]) O R.below)
  · have d1 : decide (n < 1) = true := decide_eq_true (by omega)
    have HV := Lib.hid (run3 (l := l) (p := p) (q := q) (t := 1) hn1)
    obtain ⟨r0, r1, ro, rb⟩ := fail3 R
    clear hn1
    go_wp2
    exact bodyPost_ret (v := .tuple #[.slice (some ⟨v3.heap.size, 0, none⟩) 0 0, .agg #[.int .i64 0, .int .i64 0], .bool false]) (by simp [results, Try.results19, go_sem, r0.out, r1.out]) rfl (row3 (M := []) (by rw [runS_no HV.out]) (by rw [runS_no HV.out]) (by rw [runS_no HV.out]) HV.out rfl ro.out rb.out)
end Go.Proofs.Ytciohcipmkhneaa.SerA
