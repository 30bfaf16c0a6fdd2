/- Series: PassesToEmpty. -/
import Derived.Test.YtciohcipmkhneaaSerA3
import Derived.Test.YtciohcipmkhneaaSerS
namespace Go.Proofs.Ytciohcipmkhneaa.SerE
open Go.RowKit Go.Proofs.Ytciohcipmkhneaa.Mem Go.Proofs.Ytciohcipmkhneaa.Base Go.Proofs.Ytciohcipmkhneaa.Within Go.Proofs.Ytciohcipmkhneaa.Brine Go.Proofs.Ytciohcipmkhneaa.Brine6 Go.Proofs.Ytciohcipmkhneaa.Regn Go.Proofs.Ytciohcipmkhneaa.Boxes Go.Proofs.Ytciohcipmkhneaa.Keep Go.Proofs.Ytciohcipmkhneaa.Ser Go.Proofs.Ytciohcipmkhneaa.SerG Go.Proofs.Ytciohcipmkhneaa.SerC Go.Proofs.Ytciohcipmkhneaa.SerQ Go.Proofs.Ytciohcipmkhneaa.SerP Go.Proofs.Ytciohcipmkhneaa.SerT Go.Proofs.Ytciohcipmkhneaa.SerA3
open Go.Proofs.Ytciohcipmkhneaa.SBasin hiding RPost rpost
set_option linter.unusedVariables false
set_option linter.unusedSimpArgs false
set_option maxRecDepth 100000
/-- passes until all is empty; f passes may still be made. -/
def pteF (n : Int) : Nat → Nat → List R → Option Nat
  | 0, _, _ => none
  | f + 1, k, l => if tw l + ts l = 0 then some k else if good (passL l n) = true then pteF n f (k + 1) (passL l n) else none
def pteOk (l : List R) (n : Int) : Bool := good l && decide (1 ≤ n)
def pteV (l : List R) (n : Int) : Value := if pteOk l n = true then (match pteF n 1001 0 l with | some k => .tuple #[.int .i64 (k : Int), .bool true] | none => .tuple #[.int .i64 0, .bool false]) else .tuple #[.int .i64 0, .bool false]
theorem pte_form (l : List R) (n : Int) : ∃ x q, pteV l n = .tuple #[.int .i64 x, .bool q] := by
  unfold pteV
  split
  · split
    · exact ⟨_, _, rfl⟩
    · exact ⟨_, _, rfl⟩
  · exact ⟨_, _, rfl⟩
theorem pte1 {l : List R} {n : Int} (h : pteOk l n = false) : pteV l n = .tuple #[.int .i64 0, .bool false] := by unfold pteV; rw [h]; rfl
theorem pte2 {l : List R} {n : Int} (h : pteF n 1001 0 l = none) : pteV l n = .tuple #[.int .i64 0, .bool false] := by unfold pteV; rw [h]; split <;> rfl
theorem pte3 {l : List R} {n : Int} {k : Nat} (h0 : pteOk l n = true) (h : pteF n 1001 0 l = some k) : pteV l n = .tuple #[.int .i64 (k : Int), .bool true] := by unfold pteV; rw [if_pos h0, h]
structure Up (l : List R) (n : Int) (k : Nat) (m : List R) : Prop where
  all : pteF n 1001 0 l = pteF n (1001 - k) k m
  good : good m = true
  len : m.length = l.length
theorem Up.start {l : List R} {n : Int} (hg : Ser.good l = true) : Up l n 0 l := ⟨rfl, hg, rfl⟩
theorem Up.found {l m : List R} {n : Int} {k : Nat} (h : Up l n k m) (hk : k ≤ 1000) (h0 : tw m + ts m = 0) : pteF n 1001 0 l = some k := by
  rw [h.all, show 1001 - k = (1000 - k) + 1 by omega]
  show (if _ then _ else _) = _
  rw [if_pos h0]
theorem Up.next {l m : List R} {n : Int} {k : Nat} (h : Up l n k m) (hk : k ≤ 1000) (h0 : ¬ tw m + ts m = 0) (hg : Ser.good (passL m n) = true) : Up l n (k + 1) (passL m n) := by
  refine ⟨?_, hg, (pass_len _ _).trans h.len⟩
  rw [h.all, show 1001 - k = (1000 - k) + 1 by omega]
  show (if _ then _ else _) = _
  rw [if_neg h0, if_pos hg, show 1001 - (k + 1) = 1000 - k by omega]
theorem Up.bad {l m : List R} {n : Int} {k : Nat} (h : Up l n k m) (hk : k ≤ 1000) (h0 : ¬ tw m + ts m = 0) (hg : Ser.good (passL m n) = false) : pteF n 1001 0 l = none := by
  rw [h.all, show 1001 - k = (1000 - k) + 1 by omega]
  show (if _ then _ else _) = _
  rw [if_neg h0, hg]; rfl
theorem Up.last {l m : List R} {n : Int} {k : Nat} (h : Up l n k m) (hk : 1001 ≤ k) : pteF n 1001 0 l = none := by
  rw [h.all, show 1001 - k = 0 by omega]; rfl
theorem step_zero {m : List R} {n : Int} (hg : good m = true) (hn : 1 ≤ n) : stepOk m 0 0 n = good (passL m n) := by
  have h := out_bd hg hn
  unfold stepOk
  rw [okB_mk (a := 0 + outW m n) (b := 0 + outS m n) (by omega), Bool.and_true]
theorem mass_big (a b : Int) (ha : 0 ≤ a) (ha1 : a ≤ 100000000) (hb : 0 ≤ b) (hb1 : b ≤ 100000000) (w : World) : Calls Try.prog 92 #[.agg #[.int .i64 a, .int .i64 b]] w (RPost (.int .i64 (a + b)) w) := by
  go_enter Try.func92, Try.ntmps92
  go_wp2
  go_ret
  exact rpost rfl (al (Below.refl _ _))
set_option maxHeartbeats 1600000 in
theorem pte_spec (P : Option Addr) (cap : Nat) (l : List R) (n : Int) (w : World) (hr : Rd w w.heap.size P (flat l)) (hn : l.length ≤ 1048576) :
    Calls Try.prog 29 #[.slice P l.length cap, .int .i64 n] w (RPost (pteV l n) w) := by
  have HR := Lib.hid hr; clear hr
  go_enter Try.func29, Try.ntmps29
  go_wp2_with fail
  refine (good_spec P cap l w HR.out hn).mono ?_
  rintro e w1 ⟨rfl, HB⟩
  cases hg : good l
  · have HV := Lib.hid (pte1 (l := l) (n := n) (by unfold pteOk; rw [hg]; rfl))
    go_wp2
    go_ret2
    exact rpost HV.out.symm HB
  have HG := Lib.hid hg; clear hg
  by_cases hn1 : 1 ≤ n
  · have d1 : decide (n < 1) = false := decide_eq_false (by omega)
    have HOK := Lib.hid (show pteOk l n = true by unfold pteOk; rw [HG.out, decide_eq_true hn1]; rfl)
    obtain ⟨g1, g8, _⟩ := good_all HG.out
    go_wp2_with fail
    refine (own_spec P cap l w1 ((HR.out.below HB (Nat.le_refl _)).mono HB.size) g1 hn).mono ?_
    rintro e w2 ⟨g, c, rfl, O, hv⟩
    replace O := O.base HB.size
    replace HB := be HB hv
    clear hv
    go_wp2
    go_loopw [6, 7] (fun sl i wr => ∃ (k g c : Nat) (m : List R), k ≤ 1001 ∧ i = .int .i64 k ∧ sl = .slice (some ⟨g, 0, none⟩) m.length c ∧ Hid (Up l n k m) ∧ Own wr w.heap.size g c m ∧ Below w.heap.size w wr) (fun _ i _ => 1001 - (intOf i).toNat)
    case atStart => exact ⟨0, g, c, l, by omega, rfl, rfl, Lib.hid (Up.start HG.out), O, HB⟩
    case round =>
      clear O HB
      obtain ⟨k, g0, c0, m, hk, rfl, rfl, HU, O, HB⟩ := hrel
      by_cases hlt : k ≤ 1000
      · have d2 : decide ((k : Int) ≤ 1000) = true := decide_eq_true (by omega)
        have htb := SerS.tot_take HU.out.good m.length
        rw [List.take_of_length_le (Nat.le_refl _)] at htb
        obtain ⟨t0, t1, t2, t3⟩ := htb
        have hm8 := (good_all HU.out.good).2.1
        have HK := Lib.hid hlt
        go_wp2_with fail
        refine (SerS.all_spec (some ⟨g0, 0, none⟩) c0 m _ O.rd HU.out.good).mono ?_
        rintro e v1 ⟨rfl, hv1⟩
        replace O := Own.keep O hv1
        replace HB := be HB hv1
        have zhv1 := hv1.size
        unfold br
        go_wp2_with fail
        refine (mass_big (tw m) (ts m) t0 (by omega) t2 (by omega) _).mono ?_
        rintro e v2 ⟨rfl, hv2⟩
        replace O := Own.keep O hv2
        replace HB := be HB hv2
        have zhv2 := hv2.size
        by_cases hz : tw m + ts m = 0
        · have hz' : (tw m + ts m == 0) = true := by rw [beq_iff_eq]; exact hz
          have HV := Lib.hid (pte3 HOK.out (HU.out.found HK.out hz))
          clear hz
          go_wp2
          go_ret2
          exact rpost HV.out.symm HB
        · have hz' : (tw m + ts m == 0) = false := by rw [beq_eq_false_iff_ne]; exact hz
          have HZ := Lib.hid hz; clear hz
          have hBs := HB.size
          go_wp2_with fail
          refine (pass_spec (some ⟨g0, 0, none⟩) c0 m 0 0 n _ O.rd HU.out.good (okB_mk (by omega)) hn1).mono ?_
          rintro e v3 ⟨g2, c2, rfl, O2, hv3⟩
          replace O := Own.keep O hv3
          replace HB := be HB hv3
          have zhv3 := hv3.size
          replace O2 := O2.base hBs
          have HSZ := Lib.hid (step_zero HU.out.good hn1)
          have HPL := Lib.hid (pass_len m n)
          obtain ⟨x, hx⟩ : ∃ x, 0 + outW m n = x := ⟨_, rfl⟩
          obtain ⟨y, hy⟩ : ∃ y, 0 + outS m n = y := ⟨_, rfl⟩
          rw [hx, hy, HSZ.out]
          clear hx hy hBs
          cases hs : good (passL m n)
          · have HV := Lib.hid (pte2 (HU.out.bad HK.out HZ.out hs))
            clear hs O O2
            go_upto_region 10 with fail
            have HB2 := Lib.hid (al HB (o := .cells #[.int .i64 x, .int .i64 y] 26))
            go_wp2
            go_ret2
            exact rpost HV.out.symm HB2.out
          · have HU2 := Lib.hid (HU.out.next HK.out HZ.out hs)
            have HO3 := Lib.hid (O2.keep (al (Below.refl _ _) (o := .cells #[.int .i64 x, .int .i64 y] 26)))
            have HB2 := Lib.hid (al HB (o := .cells #[.int .i64 x, .int .i64 y] 26))
            clear hs O O2
            go_wp2
            go_roundw
            case rel => exact ⟨k + 1, g2, c2, passL m n, by omega, by go_num, by rw [HPL.out], HU2, HO3.out, HB2.out⟩
            case measure => simp [intOf]; omega
      · have d2 : decide ((k : Int) ≤ 1000) = false := decide_eq_false (by omega)
        have HV := Lib.hid (pte2 (HU.out.last (by omega)))
        go_wp2
        go_ret2
        exact rpost HV.out.symm HB
  · have d1 : decide (n < 1) = true := decide_eq_true (by omega)
    have HV := Lib.hid (pte1 (l := l) (n := n) (by unfold pteOk; rw [decide_eq_false hn1, Bool.and_false]))
    clear hn1
    go_wp2
    go_ret2
    exact rpost HV.out.symm HB
theorem empty_tot {l : List R} (h : ∀ x ∈ l, okA x = true) : (∀ j (hj : j < l.length), l[j].f1 + l[j].f2 ≤ 0) ↔ tw l + ts l = 0 := by
  induction l with
  | nil => simp [tw, ts]
  | cons x l ih =>
    have h1 := okA_true (h x (by simp))
    have h2 := tot_bd (l := l) (fun y hy => h y (by simp [hy]))
    have h3 := ih (fun y hy => h y (by simp [hy]))
    have e1 : tw (x :: l) = x.f1 + tw l := by simp [tw]
    have e2 : ts (x :: l) = x.f2 + ts l := by simp [ts]
    constructor
    · intro h4
      have h5 := h4 0 (by simp)
      have h6 := h3.1 (fun j hj => by have := h4 (j + 1) (by simpa using hj); simpa using this)
      simp at h5
      omega
    · intro h4 j hj
      cases j with
      | zero => simp; omega
      | succ j => have := h3.2 (by omega) j (by simpa using hj); simpa using this
theorem empty_impl (P : Option Addr) (cap : Nat) (l : List R) (w : World) (hr : Rd w w.heap.size P (flat l)) (hg : good l = true) :
    Calls Try.prog 91 #[.slice P l.length cap] w (RPost (.bool (decide (tw l + ts l = 0))) w) := by
  have HR := Lib.hid hr; clear hr
  have HG := Lib.hid hg
  have h8 := (good_all hg).2.1
  clear hg
  go_enter Try.func91, Try.ntmps91
  go_wp2
  go_loopw [7] (fun i wr => ∃ k : Nat, k ≤ l.length ∧ i = .int .i64 k ∧ Hid (∀ j (hj : j < l.length), j < k → l[j].f1 + l[j].f2 ≤ 0) ∧ Below w.heap.size w wr) (fun i _ => l.length - (intOf i).toNat)
  case atStart => exact ⟨0, Nat.zero_le _, rfl, Lib.hid (fun j _ h => by omega), Below.refl _ _⟩
  case round =>
    obtain ⟨k, hk, rfl, HE, HB0⟩ := hrel
    by_cases hlt : k < l.length
    · obtain ⟨b, o, rfl, hb, hc⟩ := HR.out.at (k := k * 3) (by rw [flat_n]; omega)
      obtain ⟨x, hx⟩ : ∃ x, l[k] = x := ⟨_, rfl⟩
      obtain ⟨h0, h1, h2⟩ := cells3 HB0 hb hc hlt hx
      obtain ⟨_, _, hu0, hu1, hv0, hv1⟩ := okA_true (good_get HG.out hlt hx)
      have HX := Lib.hid hx
      have HL := Lib.hid hlt
      clear hc hx
      go_wp2_with fail
      have B := Box.new HB0 [.int .i64 x.f0, .int .i64 x.f1, .int .i64 x.f2] 50 (g := wr.heap.size) rfl
      generalize (wr.alloc (.cells #[.int .i64 x.f0, .int .i64 x.f1, .int .i64 x.f2] 50)) = W1 at B ⊢
      have B_0 := B.cells 0 _ rfl
      have B_1 := B.cells 1 _ rfl
      have B_2 := B.cells 2 _ rfl
      have B_f0 := B.free 0 (by simp)
      have B_f1 := B.free 1 (by simp)
      have B_f2 := B.free 2 (by simp)
      have B_t := B.there
      clear h0 h1 h2
      go_wp2_with fail
      refine (IBrine.mass_impl x.f1 x.f2 hu0 hu1 hv0 hv1 _).mono ?_
      rintro e v2 ⟨rfl, hv2⟩
      clear B_0 B_1 B_2 B_f0 B_f1 B_f2 B_t
      replace B := B.more hv2
      have zhv2 := hv2.size
      clear hv2
      have B_0 := B.cells 0 _ rfl
      have B_1 := B.cells 1 _ rfl
      have B_2 := B.cells 2 _ rfl
      have B_f0 := B.free 0 (by simp)
      have B_f1 := B.free 1 (by simp)
      have B_f2 := B.free 2 (by simp)
      have B_t := B.there
      by_cases hm : 0 < x.f1 + x.f2
      · have hm' : decide (0 < x.f1 + x.f2) = true := decide_eq_true hm
        have HN := Lib.hid (show decide (tw l + ts l = 0) = false from decide_eq_false (fun h => by have h9 := (empty_tot (good_all HG.out).2.2).2 h k HL.out; rw [HX.out] at h9; omega))
        clear hm
        go_wp2
        go_ret
        exact rpost (by rw [HN.out] <;> rfl) B.below
      · have hm' : decide (0 < x.f1 + x.f2) = false := decide_eq_false hm
        have HN := Lib.hid (show ∀ j (hj : j < l.length), j < k + 1 → l[j].f1 + l[j].f2 ≤ 0 from fun j hj hj2 => by
          rcases Nat.lt_or_ge j k with h | h
          · exact HE.out j hj h
          · have : j = k := by omega
            subst this; rw [HX.out]; omega)
        clear hm
        go_wp2
        go_roundw
        case rel => exact ⟨k + 1, HL.out, by go_num, HN, B.below⟩
        case measure => have := HL.out; simp [intOf]; omega
    · have HN := Lib.hid (show decide (tw l + ts l = 0) = true from decide_eq_true ((empty_tot (good_all HG.out).2.2).1 (fun j hj => HE.out j hj (by omega))))
      go_wp2
      go_ret
      exact rpost (by rw [HN.out] <;> rfl) HB0
set_option maxHeartbeats 1600000 in
theorem pte_impl (P : Option Addr) (cap : Nat) (l : List R) (n : Int) (w : World) (hr : Rd w w.heap.size P (flat l)) (hcp : l.length ≤ cap) (hn : l.length ≤ 1048576) :
    Calls Try.prog 28 #[.slice P l.length cap, .int .i64 n] w (RPost (pteV l n) w) := by
  have HR := Lib.hid hr; clear hr
  go_enter Try.func28, Try.ntmps28
  go_wp2_with fail
  refine (can_impl P cap l n w HR.out hn).mono ?_
  rintro e w1 ⟨rfl, HB⟩
  have HO0 := Lib.hid (show pteOk l n = (good l && decide (1 ≤ n)) from rfl)
  cases hok : (good l && decide (1 ≤ n))
  · have HV := Lib.hid (pte1 (l := l) (n := n) (HO0.out.trans hok))
    go_wp2
    go_ret2
    exact rpost HV.out.symm HB
  have hok2 := hok
  rw [Bool.and_eq_true, decide_eq_true_eq] at hok2
  have HG := Lib.hid hok2.1
  have hn1 := hok2.2
  have HOK := Lib.hid (HO0.out.trans hok)
  obtain ⟨g1, g8, _⟩ := good_all HG.out
  clear hok hok2
  go_wp2_with fail
  refine (copy_impl P cap l w1 ((HR.out.below HB (Nat.le_refl _)).mono HB.size) g1 hn).mono ?_
  rintro e w2 ⟨g, c, rfl, O, hv⟩
  replace O := O.base HB.size
  replace HB := be HB hv
  clear hv
  go_wp2
  go_loopw [7] (fun i wr => ∃ (k : Nat) (m : List R), k ≤ 1001 ∧ i = .int .i64 k ∧ Hid (Up l n k m) ∧ Own wr w.heap.size g c m ∧ Below w.heap.size w wr) (fun i _ => 1001 - (intOf i).toNat)
  case atStart => exact ⟨0, l, by omega, rfl, Lib.hid (Up.start HG.out), O, HB⟩
  case round =>
    clear O HB
    obtain ⟨k, m, hk, rfl, HU, O, HB⟩ := hrel
    by_cases hlt : k ≤ 1000
    · have d2 : decide ((k : Int) ≤ 1000) = true := decide_eq_true (by omega)
      have HK := Lib.hid hlt
      have HML := Lib.hid HU.out.len
      have HEI := Lib.hid (show Calls Try.prog 91 #[.slice (some ⟨g, 0, none⟩) l.length c] wr (RPost (.bool (decide (tw m + ts m = 0))) wr) by
        have h := empty_impl (some ⟨g, 0, none⟩) c m wr O.rd HU.out.good
        rw [HML.out] at h; exact h)
      go_wp2_with fail
      refine (HEI.out).mono ?_
      rintro e v1 ⟨rfl, hv1⟩
      replace O := Own.keep O hv1
      replace HB := be HB hv1
      have zhv1 := hv1.size
      by_cases hz : tw m + ts m = 0
      · have hz' : decide (tw m + ts m = 0) = true := decide_eq_true hz
        have HV := Lib.hid (pte3 HOK.out (HU.out.found HK.out hz))
        rw [hz']
        clear hz hz'
        go_wp2
        go_ret2
        exact rpost HV.out.symm HB
      · have hz' : decide (tw m + ts m = 0) = false := decide_eq_false hz
        have HZ := Lib.hid hz
        rw [hz']
        clear hz hz'
        have HPI := Lib.hid (fun u0 (hb0 : Below w.heap.size w u0) (o : Own u0 w.heap.size g c m) => show Calls Try.prog 88 #[.slice (some ⟨g, 0, none⟩) l.length c, .int .i64 n] u0 (PassPost m n g c w u0) from by
          have h := pass_impl g c m n w u0 HU.out.good hn1 hb0 o
          rw [HML.out] at h; exact h)
        go_wp2_with fail
        refine (HPI.out _ HB O).mono ?_
        rintro e w6 ⟨M, x, y, rfl, hM, O2, HB2, G2, hyes⟩
        have HYES := Lib.hid hyes
        clear O HB G2 hM hyes
        cases hs : good (passL m n)
        · have HV := Lib.hid (pte2 (HU.out.bad HK.out HZ.out hs))
          have HB3 := Lib.hid (al HB2 (o := .cells #[.int .i64 x, .int .i64 y] 26))
          clear hs O2
          go_wp2
          go_ret2
          exact rpost HV.out.symm HB3.out
        · have hM9 := (HYES.out hs).1
          subst hM9
          have HU2 := Lib.hid (HU.out.next HK.out HZ.out hs)
          have HO3 := Lib.hid (O2.keep (al (Below.refl _ _) (o := .cells #[.int .i64 x, .int .i64 y] 26)))
          have HB3 := Lib.hid (al HB2 (o := .cells #[.int .i64 x, .int .i64 y] 26))
          clear hs O2
          go_wp2
          go_roundw
          case rel => exact ⟨k + 1, passL m n, by omega, by go_num, HU2, HO3.out, HB3.out⟩
          case measure => simp [intOf]; omega
    · have d2 : decide ((k : Int) ≤ 1000) = false := decide_eq_false (by omega)
      have HV := Lib.hid (pte2 (HU.out.last (by omega)))
      go_wp2
      go_ret2
      exact rpost HV.out.symm HB
end Go.Proofs.Ytciohcipmkhneaa.SerE
