/- Series: AfterPasses and AfterPass of the program. Made by tools/mk_sera3.py. -/
import Derived.Test.YtciohcipmkhneaaSerA2
namespace Go.Proofs.Ytciohcipmkhneaa.SerA3
open Go.RowKit Go.Proofs.Ytciohcipmkhneaa.Mem Go.Proofs.Ytciohcipmkhneaa.Base Go.Proofs.Ytciohcipmkhneaa.Within Go.Proofs.Ytciohcipmkhneaa.Brine Go.Proofs.Ytciohcipmkhneaa.Brine6 Go.Proofs.Ytciohcipmkhneaa.Regn Go.Proofs.Ytciohcipmkhneaa.Boxes Go.Proofs.Ytciohcipmkhneaa.Keep Go.Proofs.Ytciohcipmkhneaa.Ser Go.Proofs.Ytciohcipmkhneaa.SerG Go.Proofs.Ytciohcipmkhneaa.SerC Go.Proofs.Ytciohcipmkhneaa.SerQ Go.Proofs.Ytciohcipmkhneaa.SerP Go.Proofs.Ytciohcipmkhneaa.SerT Go.Proofs.Ytciohcipmkhneaa.SerA Go.Proofs.Ytciohcipmkhneaa.SerA2
open Go.Proofs.Ytciohcipmkhneaa.SBasin hiding RPost rpost
set_option linter.unusedVariables false
set_option linter.unusedSimpArgs false
set_option maxRecDepth 100000
theorem _root_.Go.Proofs.Ytciohcipmkhneaa.Boxes.Box.of_grown {b g : Nat} {cs : List Value} {w W V : World} (h : Box b cs w W) (hg : W.grownBy V (some g)) (hne : g ≠ b) (hB : Below w.heap.size w V) : Box b cs w V := by
  have hb : V.heap[b]? = W.heap[b]? := hg.block b h.there (fun e => hne (by injection e with e; exact e.symm))
  exact ⟨fun i v hv => (World.cell?_of_block (w := W) hb).trans (h.cells i v hv), fun i hi => (World.frozen?_of_block (w := W) hb).trans (h.free i hi), h.base, Nat.lt_of_lt_of_le h.there hg.size, hB⟩
/-- a store away from an owned row. -/
theorem own_off {w : World} {base k : Nat} {e : TypeId} {size n : Nat} {v : Value} {xs : List Value} (h : w.ownsRow base e size v n xs) (hne : ∀ j, v.ownBlock = some j → j ≠ k) (i : Nat) (u : Value) : (w.setCell ⟨k, i, none⟩ u).ownsRow base e size v n xs := by
  refine ⟨h.1, ?_⟩
  rcases h.2 with h2 | ⟨g, cap, cur, hv, hgb, hh, r⟩
  · exact .inl h2
  · refine .inr ⟨g, cap, cur, hv, hgb, ?_, r⟩
    rw [Below.heap_setCell w ⟨k, i, none⟩ u g (hne g (by rw [hv]; rfl))]; exact hh
theorem can_impl (P : Option Addr) (cap : Nat) (l : List R) (n : Int) (w : World) (hr : Rd w w.heap.size P (flat l)) (hn : l.length ≤ 1048576) :
    Calls Try.prog 86 #[.slice P l.length cap, .int .i64 n] w (RPost (.bool (good l && decide (1 ≤ n))) w) := by
  have HR := Lib.hid hr; clear hr
  go_enter Try.func86, Try.ntmps86
  go_wp2_with fail
  refine (good_impl P cap l w HR.out hn).mono ?_
  rintro e w1 ⟨rfl, HB⟩
  cases hg : good l
  · go_wp2
    go_ret
    exact rpost (by rw [hg]; simp) HB
  · go_wp2
    go_ret
    exact rpost (by rw [hg]; simp) HB
set_option maxHeartbeats 3200000 in
theorem run_impl (P : Option Addr) (cap : Nat) (l : List R) (p q n t : Int) (w : World) (hr : Rd w w.heap.size P (flat l)) (hcp : l.length ≤ cap) (hn : l.length ≤ 1048576) :
    Calls Try.prog 25 #[.slice P l.length cap, .agg #[.int .i64 p, .int .i64 q], .int .i64 n, .int .i64 t] w (Row3 (runS l p q n t).l (runS l p q n t).p (runS l p q n t).q (runOk l p q n t) w) := by
  have HR := Lib.hid hr; clear hr
  go_enter Try.func25, Try.ntmps25
  go_wp2_with fail
  have N := (Box.new (Below.refl _ w) [.int .i64 p, .int .i64 q] 26 (g := w.heap.size) rfl).alloc (.cells #[.int .i64 0, .int .i64 0] 26)
  have R := Box.new (al (Below.refl _ w) (o := (.cells #[.int .i64 p, .int .i64 q] 26))) [.int .i64 0, .int .i64 0] 26 (g := w.heap.size + 1) (by simp only [size_alloc'])
  generalize ((w.alloc (.cells #[.int .i64 p, .int .i64 q] 26)).alloc (.cells #[.int .i64 0, .int .i64 0] 26)) = W1 at N R ⊢
  have N_0 := N.cells 0 _ rfl
  have N_1 := N.cells 1 _ rfl
  have N_f0 := N.free 0 (by simp)
  have N_f1 := N.free 1 (by simp)
  have N_t := N.there
  have R_0 := R.cells 0 _ rfl
  have R_1 := R.cells 1 _ rfl
  have R_f0 := R.free 0 (by simp)
  have R_f1 := R.free 1 (by simp)
  have R_t := R.there
  go_wp2_with fail
  refine (can_impl P cap l n _ (rd_keep HR.out N.below) hn).mono ?_
  rintro e v2 ⟨rfl, hv2⟩
  clear N_0 N_1 N_f0 N_f1 N_t
  clear R_0 R_1 R_f0 R_f1 R_t
  replace N := N.more hv2
  replace R := R.more hv2
  have zhv2 := hv2.size
  clear hv2
  have N_0 := N.cells 0 _ rfl
  have N_1 := N.cells 1 _ rfl
  have N_f0 := N.free 0 (by simp)
  have N_f1 := N.free 1 (by simp)
  have N_t := N.there
  have R_0 := R.cells 0 _ rfl
  have R_1 := R.cells 1 _ rfl
  have R_f0 := R.free 0 (by simp)
  have R_f1 := R.free 1 (by simp)
  have R_t := R.there
  cases hg : good l
  · have HV := Lib.hid (run1 (p := p) (q := q) (n := n) (t := t) hg)
    simp only [Bool.false_and]
    obtain ⟨r0, r1, ro, rb⟩ := fail3 R
    go_wp2
    exact bodyPost_ret (v := .tuple #[.slice (some ⟨v2.heap.size, 0, none⟩) 0 0, .agg #[.int .i64 0, .int .i64 0], .bool false]) (by simp [results, Try.results25, go_sem, r0.out, r1.out]) rfl (row3 (M := []) (by rw [runS_no HV.out]) (by rw [runS_no HV.out]) (by rw [runS_no HV.out]) HV.out rfl ro.out rb.out)
  have HG := Lib.hid hg; clear hg
  by_cases hn1 : 1 ≤ n
  · have d1 : decide (1 ≤ n) = true := decide_eq_true (by omega)
    rw [d1]
    simp only [Bool.and_self]
    clear d1
    go_wp2_with fail
    refine (IBrine.brine_impl p q _).mono ?_
    rintro e v3 ⟨rfl, hv3⟩
    clear N_0 N_1 N_f0 N_f1 N_t
    clear R_0 R_1 R_f0 R_f1 R_t
    replace N := N.more hv3
    replace R := R.more hv3
    have zhv3 := hv3.size
    clear hv3
    have N_0 := N.cells 0 _ rfl
    have N_1 := N.cells 1 _ rfl
    have N_f0 := N.free 0 (by simp)
    have N_f1 := N.free 1 (by simp)
    have N_t := N.there
    have R_0 := R.cells 0 _ rfl
    have R_1 := R.cells 1 _ rfl
    have R_f0 := R.free 0 (by simp)
    have R_f1 := R.free 1 (by simp)
    have R_t := R.there
    cases hp : okB p q
    · have HV := Lib.hid (run2 (l := l) (n := n) (t := t) hp)
      clear hn1
      obtain ⟨r0, r1, ro, rb⟩ := fail3 R
      go_wp2
      exact bodyPost_ret (v := .tuple #[.slice (some ⟨v3.heap.size, 0, none⟩) 0 0, .agg #[.int .i64 0, .int .i64 0], .bool false]) (by simp [results, Try.results25, go_sem, r0.out, r1.out]) rfl (row3 (M := []) (by rw [runS_no HV.out]) (by rw [runS_no HV.out]) (by rw [runS_no HV.out]) HV.out rfl ro.out rb.out)
    have HP := Lib.hid hp; clear hp
    go_wp2_with fail
    refine (within_any _ _ _ _).mono ?_
    rintro e _ ⟨rfl, rfl⟩
    cases ht : inB t 0 100
    · have HV := Lib.hid (run4 (l := l) (p := p) (q := q) (n := n) ht)
      clear ht hn1
      obtain ⟨r0, r1, ro, rb⟩ := fail3 R
      go_wp2
      exact bodyPost_ret (v := .tuple #[.slice (some ⟨v3.heap.size, 0, none⟩) 0 0, .agg #[.int .i64 0, .int .i64 0], .bool false]) (by simp [results, Try.results25, go_sem, r0.out, r1.out]) rfl (row3 (M := []) (by rw [runS_no HV.out]) (by rw [runS_no HV.out]) (by rw [runS_no HV.out]) HV.out rfl ro.out rb.out)
    obtain ⟨tn, rfl⟩ : ∃ m : Nat, t = m := ⟨t.toNat, by have := of_inB ht; omega⟩
    have ht100 : tn ≤ 100 := by have := of_inB ht; omega
    have HT := Lib.hid ht; clear ht
    obtain ⟨g1, g8, _⟩ := good_all HG.out
    have hN8 := N.below.size
    have hR8 := R.there
    go_wp2_with fail
    refine (copy_impl P cap l _ (rd_keep HR.out N.below) g1 hn).mono ?_
    rintro e v5 ⟨g, c, rfl, O, hv5⟩
    clear N_0 N_1 N_f0 N_f1 N_t
    clear R_0 R_1 R_f0 R_f1 R_t
    replace N := N.more hv5
    replace R := R.more hv5
    have zhv5 := hv5.size
    clear hv5
    have N_0 := N.cells 0 _ rfl
    have N_1 := N.cells 1 _ rfl
    have N_f0 := N.free 0 (by simp)
    have N_f1 := N.free 1 (by simp)
    have N_t := N.there
    have R_0 := R.cells 0 _ rfl
    have R_1 := R.cells 1 _ rfl
    have R_f0 := R.free 0 (by simp)
    have R_f1 := R.free 1 (by simp)
    have R_t := R.there
    have hgu := O.ge
    replace O := O.base hN8
    have hgR : w.heap.size + 1 < g := by omega
    clear N_0 N_1 N_f0 N_f1 N_t
    clear R_0 R_1 R_f0 R_f1 R_t
    clear hgu hN8 hR8
    go_wp2
    go_loopw [33] (fun i wr => ∃ (k : Nat) (s : St), k ≤ tn ∧ i = .int .i64 k ∧ Hid (At l p q n tn k s) ∧ Own wr w.heap.size g c s.l ∧ Box w.heap.size [.int .i64 s.p, .int .i64 s.q] w wr ∧ Box (w.heap.size + 1) [.int .i64 0, .int .i64 0] w wr) (fun i _ => tn - (intOf i).toNat)
    case atStart => exact ⟨0, ⟨l, p, q⟩, Nat.zero_le _, rfl, Lib.hid (At.start tn HG.out HP.out), O, N, R⟩
    case round =>
      clear O N R
      obtain ⟨k, s, hk, rfl, HA, O, N, R⟩ := hrel
      obtain ⟨sl, sp, sq⟩ := s
      dsimp only at O N
      have hsl : sl.length = l.length := HA.out.len
      have HSL := Lib.hid hsl; clear hsl
      by_cases hlt : k < tn
      · have HLT := Lib.hid hlt
        have HPI := Lib.hid (show Calls Try.prog 88 #[.slice (some ⟨g, 0, none⟩) l.length c, .int .i64 n] wr (PassPost sl n g c w wr) by
          have h := pass_impl g c sl n w wr HA.out.good hn1 N.below O
          rw [HSL.out] at h; exact h)
        have hob := out_bd HA.out.good hn1
        have HOB := Lib.hid hob; clear hob
        have TN := N.there
        have TR := R.there
        go_wp2_with fail
        refine HPI.out.mono ?_
        rintro e w6 ⟨M, x, y, rfl, hM, O2, HB2, G2, hyes⟩
        have N2 := N.of_grown G2 (show g ≠ w.heap.size by omega) HB2
        have R2 := R.of_grown G2 (show g ≠ w.heap.size + 1 by omega) HB2
        clear O N R G2
        have O := O2; have N := N2; have R := R2
        clear O2 N2 R2
        have HM := Lib.hid (hM.trans HSL.out); have HYES := Lib.hid hyes
        clear hM hyes
        have N_0 := N.cells 0 _ rfl
        have N_1 := N.cells 1 _ rfl
        have N_f0 := N.free 0 (by simp)
        have N_f1 := N.free 1 (by simp)
        have N_t := N.there
        have R_0 := R.cells 0 _ rfl
        have R_1 := R.cells 1 _ rfl
        have R_f0 := R.free 0 (by simp)
        have R_f1 := R.free 1 (by simp)
        have R_t := R.there
        cases hgp : good (passL sl n)
        · have HV := Lib.hid (run5 (t := (tn : Int)) (by rw [Int.toNat_natCast]; exact HA.out.fail HLT.out (by unfold stepOk; rw [hgp]; rfl)))
          clear hgp O HB2
          go_upto_region 7 with fail
          have N_t1 := N.there
          have R_t1 := R.there
          have E := Box.new N.below [.int .i64 x, .int .i64 y] 26 (g := w6.heap.size) rfl
          clear N_0 N_1 N_f0 N_f1 N_t
          replace N := (N).alloc (.cells #[.int .i64 x, .int .i64 y] 26)
          clear R_0 R_1 R_f0 R_f1 R_t
          replace R := (R).alloc (.cells #[.int .i64 x, .int .i64 y] 26)
          generalize (w6.alloc (.cells #[.int .i64 x, .int .i64 y] 26)) = W1 at E N R ⊢
          have N_0 := N.cells 0 _ rfl
          have N_1 := N.cells 1 _ rfl
          have N_f0 := N.free 0 (by simp)
          have N_f1 := N.free 1 (by simp)
          have N_t := N.there
          have R_0 := R.cells 0 _ rfl
          have R_1 := R.cells 1 _ rfl
          have R_f0 := R.free 0 (by simp)
          have R_f1 := R.free 1 (by simp)
          have R_t := R.there
          have E_0 := E.cells 0 _ rfl
          have E_1 := E.cells 1 _ rfl
          have E_f0 := E.free 0 (by simp)
          have E_f1 := E.free 1 (by simp)
          have E_t := E.there
          obtain ⟨r0, r1, ro, rb⟩ := fail3 R
          go_wp2
          exact bodyPost_ret (v := .tuple #[.slice (some ⟨W1.heap.size, 0, none⟩) 0 0, .agg #[.int .i64 0, .int .i64 0], .bool false]) (by simp [results, Try.results25, go_sem, r0.out, r1.out]) rfl (row3 (M := []) (by rw [runS_no HV.out]) (by rw [runS_no HV.out]) (by rw [runS_no HV.out]) HV.out rfl ro.out rb.out)
        · obtain ⟨rfl, hx, hy⟩ := HYES.out hgp
          have hxy : 0 ≤ x ∧ x ≤ 1000000 ∧ 0 ≤ y ∧ y ≤ 1000000 := by rw [hx, hy]; exact HOB.out
          have HMX := Lib.hid (mix2 (a := sp) (b := sq) (c := x) (d := y) HA.out.ok (okB_mk hxy))
          have HSO := Lib.hid (show stepOk sl sp sq n = okB (sp + x) (sq + y) by unfold stepOk; rw [hgp, ← hx, ← hy]; rfl)
          have HXY := Lib.hid (And.intro hx hy)
          clear hgp hx hy hxy HB2
          go_upto_region 7 with fail
          have N_t2 := N.there
          have R_t2 := R.there
          have E := Box.new N.below [.int .i64 x, .int .i64 y] 26 (g := w6.heap.size) rfl
          clear N_0 N_1 N_f0 N_f1 N_t
          replace N := (N).alloc (.cells #[.int .i64 x, .int .i64 y] 26)
          clear R_0 R_1 R_f0 R_f1 R_t
          replace R := (R).alloc (.cells #[.int .i64 x, .int .i64 y] 26)
          replace O := Own.keep O (al (Below.refl _ _) (o := (.cells #[.int .i64 x, .int .i64 y] 26)))
          generalize (w6.alloc (.cells #[.int .i64 x, .int .i64 y] 26)) = W2 at E N R O ⊢
          have N_0 := N.cells 0 _ rfl
          have N_1 := N.cells 1 _ rfl
          have N_f0 := N.free 0 (by simp)
          have N_f1 := N.free 1 (by simp)
          have N_t := N.there
          have R_0 := R.cells 0 _ rfl
          have R_1 := R.cells 1 _ rfl
          have R_f0 := R.free 0 (by simp)
          have R_f1 := R.free 1 (by simp)
          have R_t := R.there
          have E_0 := E.cells 0 _ rfl
          have E_1 := E.cells 1 _ rfl
          have E_f0 := E.free 0 (by simp)
          have E_f1 := E.free 1 (by simp)
          have E_t := E.there
          go_wp2_with fail
          have N_t3 := N.there
          have R_t3 := R.there
          have E_t3 := E.there
          have S := Box.new N.below [.int .i64 sp, .int .i64 sq, .int .i64 x, .int .i64 y] 26 (g := W2.heap.size) rfl
          clear N_0 N_1 N_f0 N_f1 N_t
          replace N := (N).alloc (.cells #[.int .i64 sp, .int .i64 sq, .int .i64 x, .int .i64 y] 26)
          clear R_0 R_1 R_f0 R_f1 R_t
          replace R := (R).alloc (.cells #[.int .i64 sp, .int .i64 sq, .int .i64 x, .int .i64 y] 26)
          clear E_0 E_1 E_f0 E_f1 E_t
          replace E := (E).alloc (.cells #[.int .i64 sp, .int .i64 sq, .int .i64 x, .int .i64 y] 26)
          replace O := Own.keep O (al (Below.refl _ _) (o := (.cells #[.int .i64 sp, .int .i64 sq, .int .i64 x, .int .i64 y] 26)))
          generalize (W2.alloc (.cells #[.int .i64 sp, .int .i64 sq, .int .i64 x, .int .i64 y] 26)) = W3 at S N R E O ⊢
          have N_0 := N.cells 0 _ rfl
          have N_1 := N.cells 1 _ rfl
          have N_f0 := N.free 0 (by simp)
          have N_f1 := N.free 1 (by simp)
          have N_t := N.there
          have R_0 := R.cells 0 _ rfl
          have R_1 := R.cells 1 _ rfl
          have R_f0 := R.free 0 (by simp)
          have R_f1 := R.free 1 (by simp)
          have R_t := R.there
          have E_0 := E.cells 0 _ rfl
          have E_1 := E.cells 1 _ rfl
          have E_f0 := E.free 0 (by simp)
          have E_f1 := E.free 1 (by simp)
          have E_t := E.there
          have S_0 := S.cells 0 _ rfl
          have S_1 := S.cells 1 _ rfl
          have S_2 := S.cells 2 _ rfl
          have S_3 := S.cells 3 _ rfl
          have S_f0 := S.free 0 (by simp)
          have S_f1 := S.free 1 (by simp)
          have S_f2 := S.free 2 (by simp)
          have S_f3 := S.free 3 (by simp)
          have S_t := S.there
          go_wp2_with fail
          refine (Mix.mix_impl _ _ [⟨sp, sq⟩, ⟨x, y⟩] _ S.rd (by simp)).mono ?_
          rintro e v4 ⟨rfl, hv4⟩
          clear N_0 N_1 N_f0 N_f1 N_t
          clear R_0 R_1 R_f0 R_f1 R_t
          clear E_0 E_1 E_f0 E_f1 E_t
          clear S_0 S_1 S_2 S_3 S_f0 S_f1 S_f2 S_f3 S_t
          replace N := N.more hv4
          replace R := R.more hv4
          replace E := E.more hv4
          replace S := S.more hv4
          replace O := Own.keep O hv4
          have zhv4 := hv4.size
          clear hv4
          have N_0 := N.cells 0 _ rfl
          have N_1 := N.cells 1 _ rfl
          have N_f0 := N.free 0 (by simp)
          have N_f1 := N.free 1 (by simp)
          have N_t := N.there
          have R_0 := R.cells 0 _ rfl
          have R_1 := R.cells 1 _ rfl
          have R_f0 := R.free 0 (by simp)
          have R_f1 := R.free 1 (by simp)
          have R_t := R.there
          have E_0 := E.cells 0 _ rfl
          have E_1 := E.cells 1 _ rfl
          have E_f0 := E.free 0 (by simp)
          have E_f1 := E.free 1 (by simp)
          have E_t := E.there
          have S_0 := S.cells 0 _ rfl
          have S_1 := S.cells 1 _ rfl
          have S_2 := S.cells 2 _ rfl
          have S_3 := S.cells 3 _ rfl
          have S_f0 := S.free 0 (by simp)
          have S_f1 := S.free 1 (by simp)
          have S_f2 := S.free 2 (by simp)
          have S_f3 := S.free 3 (by simp)
          have S_t := S.there
          rw [HMX.out]
          cases ho : okB (sp + x) (sq + y)
          · have HV := Lib.hid (run5 (t := (tn : Int)) (by rw [Int.toNat_natCast]; exact HA.out.fail HLT.out (HSO.out.trans ho)))
            simp only [Bool.false_eq_true, if_false]
            unfold br
            go_upto_region 9 with fail
            clear N_0 N_1 N_f0 N_f1 N_t
            clear R_0 R_1 R_f0 R_f1 R_t
            clear E_0 E_1 E_f0 E_f1 E_t
            clear S_0 S_1 S_2 S_3 S_f0 S_f1 S_f2 S_f3 S_t
            have N_t5 := N.there
            have R_t5 := R.there
            have E_t5 := E.there
            have S_t5 := S.there
            have N' : Box (w.heap.size) [.int .i64 0, .int .i64 0] w _ := ((N.set 0 (.int .i64 0)).set 1 (.int .i64 0))
            have R' : Box (w.heap.size + 1) [.int .i64 0, .int .i64 0] w _ := ((R.far N.base (by omega) 0 (.int .i64 0)).far N.base (by omega) 1 (.int .i64 0))
            have E' : Box (w6.heap.size) [.int .i64 x, .int .i64 y] w _ := ((E.far N.base (by omega) 0 (.int .i64 0)).far N.base (by omega) 1 (.int .i64 0))
            have S' : Box (W2.heap.size) [.int .i64 sp, .int .i64 sq, .int .i64 x, .int .i64 y] w _ := ((S.far N.base (by omega) 0 (.int .i64 0)).far N.base (by omega) 1 (.int .i64 0))
            clear N; have N := N'; clear N'
            clear R; have R := R'; clear R'
            clear E; have E := E'; clear E'
            clear S; have S := S'; clear S'
            have sz5 : ((v4.setCell ⟨w.heap.size, 0, none⟩ (.int .i64 0)).setCell ⟨w.heap.size, 1, none⟩ (.int .i64 0)).heap.size = v4.heap.size := by simp only [size_set']
            generalize ((v4.setCell ⟨w.heap.size, 0, none⟩ (.int .i64 0)).setCell ⟨w.heap.size, 1, none⟩ (.int .i64 0)) = W5 at N R E S sz5 ⊢
            replace sz5 := Lib.hid sz5
            have N_0 := N.cells 0 _ rfl
            have N_1 := N.cells 1 _ rfl
            have N_f0 := N.free 0 (by simp)
            have N_f1 := N.free 1 (by simp)
            have N_t := N.there
            have R_0 := R.cells 0 _ rfl
            have R_1 := R.cells 1 _ rfl
            have R_f0 := R.free 0 (by simp)
            have R_f1 := R.free 1 (by simp)
            have R_t := R.there
            have E_0 := E.cells 0 _ rfl
            have E_1 := E.cells 1 _ rfl
            have E_f0 := E.free 0 (by simp)
            have E_f1 := E.free 1 (by simp)
            have E_t := E.there
            have S_0 := S.cells 0 _ rfl
            have S_1 := S.cells 1 _ rfl
            have S_2 := S.cells 2 _ rfl
            have S_3 := S.cells 3 _ rfl
            have S_f0 := S.free 0 (by simp)
            have S_f1 := S.free 1 (by simp)
            have S_f2 := S.free 2 (by simp)
            have S_f3 := S.free 3 (by simp)
            have S_t := S.there
            obtain ⟨r0, r1, ro, rb⟩ := fail3 R
            go_wp2
            exact bodyPost_ret (v := .tuple #[.slice (some ⟨W5.heap.size, 0, none⟩) 0 0, .agg #[.int .i64 0, .int .i64 0], .bool false]) (by simp [results, Try.results25, go_sem, r0.out, r1.out]) rfl (row3 (M := []) (by rw [runS_no HV.out]) (by rw [runS_no HV.out]) (by rw [runS_no HV.out]) HV.out rfl ro.out rb.out)
          · have HA2 := Lib.hid (HA.out.next HLT.out (HSO.out.trans ho))
            simp only [if_true]
            unfold br
            have hng2 : w.heap.size ≠ g := by omega
            have hnw : w.heap.size ≠ w.heap.size + 1 := by omega
            have HO3 := Lib.hid ((O.far hng2 0 (.int .i64 (sp + x))).far hng2 1 (.int .i64 (sq + y)))
            have HN3 := Lib.hid ((N.set 0 (.int .i64 (sp + x))).set 1 (.int .i64 (sq + y)))
            have HR3 := Lib.hid ((R.far (Nat.le_refl _) hnw 0 (.int .i64 (sp + x))).far (Nat.le_refl _) hnw 1 (.int .i64 (sq + y)))
            clear O ho
            go_wp2
            go_roundw
            case rel => exact ⟨k + 1, ⟨passL sl n, sp + outW sl n, sq + outS sl n⟩, by omega, by go_num, HA2, HO3.out, by rw [← HXY.out.1, ← HXY.out.2]; exact HN3.out, HR3.out⟩
            case measure => simp [intOf]; omega
      · have HRR := Lib.hid (run6 HG.out HP.out hn1 HT.out (by rw [Int.toNat_natCast]; exact HA.out.done (by omega)))
        have N_0 := N.cells 0 _ rfl
        have N_1 := N.cells 1 _ rfl
        have N_f0 := N.free 0 (by simp)
        have N_f1 := N.free 1 (by simp)
        have N_t := N.there
        have R_0 := R.cells 0 _ rfl
        have R_1 := R.cells 1 _ rfl
        have R_f0 := R.free 0 (by simp)
        have R_f1 := R.free 1 (by simp)
        have R_t := R.there
        go_wp2_with fail
        refine wp_region_seq (fun L w' => Box (w.heap.size) [.int .i64 sp, .int .i64 sq] w w' ∧ BoxL (L 3) (w.heap.size + 1) [.int .i64 0, .int .i64 0] [.int .i64 sp, .int .i64 sq] w w' ∧ Own w' w.heap.size g c sl) (by kernel_rfl) (by kernel_rfl) ⟨N.drew, BoxL.start _ R.drew, Own.keep O (Below.refl _ _).drew⟩ ?_
        clear N_0 N_1 N_f0 N_f1 N_t
        clear R_0 R_1 R_f0 R_f1 R_t
        iterate 5 (
          apply SeqH.op
          · intro L uw K hN hS hK
            obtain ⟨qN, qR, qO⟩ := hS
            have qN_0 := qN.cells 0 _ rfl
            have qN_1 := qN.cells 1 _ rfl
            try (have hh0 := qR.2 (hN.out.1 3 (by decide +kernel)); have qR_0 := hh0.cells 0 _ rfl; have qR_1 := hh0.cells 1 _ rfl; clear hh0)
            clear hN
            first
              | (go_simp; exact hK.out _ ⟨qN, (qR).skip (by decide), qO⟩)
              | (rcases qR.two with hh | hh <;> (have h0 := hh.cells 0 _ rfl; have k0 := hh.free 0 (by simp); have h1 := hh.cells 1 _ rfl; have k1 := hh.free 1 (by simp); go_simp; exact hK.out _ ⟨((qN.far hh.base (by omega) 0 (.int .i64 sp)).far hh.base (by omega) 1 (.int .i64 sq)), BoxL.put ((hh.set 0 (.int .i64 sp)).set 1 (.int .i64 sq)), ((qO.far (by omega) 0 (.int .i64 sp)).far (by omega) 1 (.int .i64 sq))⟩))
          try simp only [Act.put, List.setIfInBounds_toArray, List.set_cons_zero, List.set_cons_succ])
        refine SeqH.done rfl ?_
        intro L v1 hL hS
        clear N R O
        obtain ⟨N, R, O⟩ := hS
        replace R := R.done (hL 3 (by decide))
        clear hL
        have N_0 := N.cells 0 _ rfl
        have N_1 := N.cells 1 _ rfl
        have N_f0 := N.free 0 (by simp)
        have N_f1 := N.free 1 (by simp)
        have N_t := N.there
        have R_0 := R.cells 0 _ rfl
        have R_1 := R.cells 1 _ rfl
        have R_f0 := R.free 0 (by simp)
        have R_f1 := R.free 1 (by simp)
        have R_t := R.there
        go_wp2
        exact bodyPost_ret (v := .tuple #[.slice (some ⟨g, 0, none⟩) l.length c, .agg #[.int .i64 sp, .int .i64 sq], .bool true]) (by simp [results, Try.results25, go_sem, R_0, R_1]) rfl (row3 (M := sl) (by rw [HRR.out.2]) (by rw [HRR.out.2]) (by rw [HRR.out.2]) HRR.out.1 (by rw [HSL.out]) O R.below)
  · have d1 : decide (1 ≤ n) = false := decide_eq_false (by omega)
    rw [d1]
    simp only [Bool.and_false]
    have HV := Lib.hid (run3 (l := l) (p := p) (q := q) (t := t) hn1)
    clear hn1 d1
    obtain ⟨r0, r1, ro, rb⟩ := fail3 R
    go_wp2
    exact bodyPost_ret (v := .tuple #[.slice (some ⟨v2.heap.size, 0, none⟩) 0 0, .agg #[.int .i64 0, .int .i64 0], .bool false]) (by simp [results, Try.results25, go_sem, r0.out, r1.out]) rfl (row3 (M := []) (by rw [runS_no HV.out]) (by rw [runS_no HV.out]) (by rw [runS_no HV.out]) HV.out rfl ro.out rb.out)
set_option maxHeartbeats 800000 in
theorem one_impl (P : Option Addr) (cap : Nat) (l : List R) (p q n : Int) (w : World) (hr : Rd w w.heap.size P (flat l)) (hcp : l.length ≤ cap) (hn : l.length ≤ 1048576) :
    Calls Try.prog 18 #[.slice P l.length cap, .agg #[.int .i64 p, .int .i64 q], .int .i64 n] w (Row3 (runS l p q n 1).l (runS l p q n 1).p (runS l p q n 1).q (runOk l p q n 1) w) := by
  have HR := Lib.hid hr; clear hr
  have HI := Lib.hid (fun u0 hr0 => run_impl P cap l p q n 1 u0 hr0 hcp hn)
  obtain ⟨s, hs⟩ : ∃ s, runS l p q n 1 = s := ⟨_, rfl⟩
  obtain ⟨b, hb⟩ : ∃ b, runOk l p q n 1 = b := ⟨_, rfl⟩
  rw [hs, hb] at HI ⊢
  obtain ⟨sl, sp, sq⟩ := s
  dsimp only at HI ⊢
  clear hs hb
  go_enter Try.func18, Try.ntmps18
  go_wp2_with fail
  have N := (Box.new (Below.refl _ w) [.int .i64 p, .int .i64 q] 26 (g := w.heap.size) rfl).alloc (.cells #[.int .i64 0, .int .i64 0] 26)
  have R := Box.new (al (Below.refl _ w) (o := (.cells #[.int .i64 p, .int .i64 q] 26))) [.int .i64 0, .int .i64 0] 26 (g := w.heap.size + 1) (by simp only [size_alloc'])
  generalize ((w.alloc (.cells #[.int .i64 p, .int .i64 q] 26)).alloc (.cells #[.int .i64 0, .int .i64 0] 26)) = W1 at N R ⊢
  have N_0 := N.cells 0 _ rfl
  have N_1 := N.cells 1 _ rfl
  have N_f0 := N.free 0 (by simp)
  have N_f1 := N.free 1 (by simp)
  have N_t := N.there
  have R_0 := R.cells 0 _ rfl
  have R_1 := R.cells 1 _ rfl
  have R_f0 := R.free 0 (by simp)
  have R_f1 := R.free 1 (by simp)
  have R_t := R.there
  have hN8 := N.below.size
  have hR8 := R.there
  go_wp2_with fail
  refine (HI.out _ (rd_keep HR.out N.below)).mono ?_
  rintro e v2 ⟨A1, c, rfl, O, hv2⟩
  clear N_0 N_1 N_f0 N_f1 N_t
  clear R_0 R_1 R_f0 R_f1 R_t
  replace N := N.more hv2
  replace R := R.more hv2
  have zhv2 := hv2.size
  clear hv2
  have N_0 := N.cells 0 _ rfl
  have N_1 := N.cells 1 _ rfl
  have N_f0 := N.free 0 (by simp)
  have N_f1 := N.free 1 (by simp)
  have N_t := N.there
  have R_0 := R.cells 0 _ rfl
  have R_1 := R.cells 1 _ rfl
  have R_f0 := R.free 0 (by simp)
  have R_f1 := R.free 1 (by simp)
  have R_t := R.there
  have hge := own_ge O
  have O3 := own_base O hN8
  have O4 := own_off (own_off O3 (k := w.heap.size + 1) (fun j hj => by have := hge j hj; omega) 0 (.int .i64 sp)) (k := w.heap.size + 1) (fun j hj => by have := hge j hj; omega) 1 (.int .i64 sq)
  clear O O3 hge
  have HO := Lib.hid O4; clear O4
  have R2 := (R.set 0 (.int .i64 sp)).set 1 (.int .i64 sq)
  have r0 := R2.cells 0 _ rfl
  have r1 := R2.cells 1 _ rfl
  have HR2 := Lib.hid (And.intro r0 (And.intro r1 R2.below))
  clear r0 r1 R2
  go_wp2
  exact bodyPost_ret (v := .tuple #[.slice A1 sl.length c, .agg #[.int .i64 sp, .int .i64 sq], .bool b]) (by simp [results, Try.results18, go_sem, HR2.out.1, HR2.out.2.1]) rfl (row3 rfl rfl rfl rfl rfl HO.out HR2.out.2.2)
end Go.Proofs.Ytciohcipmkhneaa.SerA3
