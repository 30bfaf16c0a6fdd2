/- Trips: FirstStart. Made by tools/mk_tripf.py. -/
import Derived.Test.YtknlgdahcfgbeaaTripN
namespace Go.Proofs.Ytknlgdahcfgbeaa.TripF
open Go.RowKit Go.Proofs.Ytknlgdahcfgbeaa.Mem Go.Proofs.Ytknlgdahcfgbeaa.Base Go.Proofs.Ytknlgdahcfgbeaa.Within Go.Proofs.Ytknlgdahcfgbeaa.STrip Go.Proofs.Ytknlgdahcfgbeaa.Regn Go.Proofs.Ytknlgdahcfgbeaa.Boxes Go.Proofs.Ytknlgdahcfgbeaa.Keep Go.Proofs.Ytknlgdahcfgbeaa.TripP Go.Proofs.Ytknlgdahcfgbeaa.TripS Go.Proofs.Ytknlgdahcfgbeaa.TripG Go.Proofs.Ytknlgdahcfgbeaa.TripM Go.Proofs.Ytknlgdahcfgbeaa.TripN
set_option linter.unusedVariables false
set_option linter.unusedSimpArgs false
set_option maxRecDepth 100000
/-- a trip at another start. -/
def later (t : R) (s : Int) : R := ⟨t.f0, t.f1, t.f2, s, t.f4⟩
def fsF (l : List R) (t : R) (s : Int) : Nat → Option Int
  | 0 => none
  | k + 1 => if okT (later t s) = true then (if freeB l (later t s) = true then some s else fsF l t (s + 1) k) else none
def fs (l : List R) (t : R) (s : Int) : Option Int := fsF l t s ((1441 - s).toNat + 1)
theorem fs_bad {l : List R} {t : R} {s : Int} (h : okT (later t s) = false) : fs l t s = none := by unfold fs fsF; rw [h]; rfl
theorem fs_free {l : List R} {t : R} {s : Int} (h : okT (later t s) = true) (h1 : freeB l (later t s) = true) : fs l t s = some s := by unfold fs fsF; rw [if_pos h, if_pos h1]
theorem fs_next {l : List R} {t : R} {s : Int} (h : okT (later t s) = true) (h1 : freeB l (later t s) = false) : fs l t s = fs l t (s + 1) := by
  have hs : s ≤ 1440 := (okT_true h).2.2.2.2.2.2.2.2.1
  have e : (1441 - s).toNat = (1441 - (s + 1)).toNat + 1 := by omega
  show fsF l t s ((1441 - s).toNat + 1) = _
  rw [fsF, if_pos h, h1, if_neg (by simp), e]; rfl
def fsV (l : List R) (t : R) : Value := if (good l && (fnd l t.f0).isNone) = true then (match fs l t t.f3 with | some s => .tuple #[.int .i64 s, .bool true] | none => .tuple #[.int .i64 0, .bool false]) else .tuple #[.int .i64 0, .bool false]
theorem fsV_bad {l : List R} {t : R} (h : good l = false) : fsV l t = .tuple #[.int .i64 0, .bool false] := by unfold fsV; rw [h]; rfl
theorem fsV_took {l : List R} {t : R} {k : Nat} (h : fnd l t.f0 = some k) : fsV l t = .tuple #[.int .i64 0, .bool false] := by unfold fsV; rw [h]; simp
theorem fsV_some {l : List R} {t : R} {s : Int} (h : good l = true) (h1 : fnd l t.f0 = none) (h2 : fs l t t.f3 = some s) : fsV l t = .tuple #[.int .i64 s, .bool true] := by unfold fsV; rw [h, h1, h2]; rfl
theorem fsV_none {l : List R} {t : R} (h : fs l t t.f3 = none) : fsV l t = .tuple #[.int .i64 0, .bool false] := by unfold fsV; rw [h]; simp
theorem fs_form (l : List R) (t : R) : ∃ n q, fsV l t = .tuple #[.int .i64 n, .bool q] := by
  unfold fsV
  split
  · split
    · exact ⟨_, _, rfl⟩
    · exact ⟨_, _, rfl⟩
  · exact ⟨_, _, rfl⟩
def cellI (w : World) (p i : Nat) : Int := match w.cell? ⟨p, i, none⟩ with | some v => intOf v | none => 0
theorem cellI_box {w W : World} {p i : Nat} {cs : List Value} {s : Int} (B : Box p cs w W) (h : cs[i]? = some (.int .i64 s)) : cellI W p i = s := by
  unfold cellI; rw [B.cells i _ h]; rfl
set_option maxHeartbeats 1600000 in
theorem fs_spec (P : Option Addr) (cap : Nat) (l : List R) (t : R) (w : World) (hr : Rd w w.heap.size P (flat l)) (hn : l.length ≤ 1048576) :
    Calls Try.prog 14 #[.slice P l.length cap, .agg #[.int .i64 t.f0, .int .i64 t.f1, .int .i64 t.f2, .int .i64 t.f3, .int .i64 t.f4]] w (RPost (fsV l t) w) := by
  have HR := Lib.hid hr; clear hr
  go_enter Try.func14, Try.ntmps14
  go_wp2_with fail
  have B := Box.new (Below.refl _ w) [.int .i64 t.f0, .int .i64 t.f1, .int .i64 t.f2, .int .i64 t.f3, .int .i64 t.f4] 25 (g := w.heap.size) rfl
  generalize (w.alloc (.cells #[.int .i64 t.f0, .int .i64 t.f1, .int .i64 t.f2, .int .i64 t.f3, .int .i64 t.f4] 25)) = W1 at B ⊢
  have B_0 := B.cells 0 _ rfl
  have B_1 := B.cells 1 _ rfl
  have B_2 := B.cells 2 _ rfl
  have B_3 := B.cells 3 _ rfl
  have B_4 := B.cells 4 _ rfl
  have B_f0 := B.free 0 (by simp)
  have B_f1 := B.free 1 (by simp)
  have B_f2 := B.free 2 (by simp)
  have B_f3 := B.free 3 (by simp)
  have B_f4 := B.free 4 (by simp)
  have B_t := B.there
  go_wp2_with fail
  refine (good_spec P cap l _ ((HR.out.below B.below (Nat.le_refl _)).mono B.below.size) hn).mono ?_
  rintro e v2 ⟨rfl, hv2⟩
  clear B_0 B_1 B_2 B_3 B_4 B_f0 B_f1 B_f2 B_f3 B_f4 B_t
  replace B := B.more hv2
  have zhv2 := hv2.size
  clear hv2
  have B_0 := B.cells 0 _ rfl
  have B_1 := B.cells 1 _ rfl
  have B_2 := B.cells 2 _ rfl
  have B_3 := B.cells 3 _ rfl
  have B_4 := B.cells 4 _ rfl
  have B_f0 := B.free 0 (by simp)
  have B_f1 := B.free 1 (by simp)
  have B_f2 := B.free 2 (by simp)
  have B_f3 := B.free 3 (by simp)
  have B_f4 := B.free 4 (by simp)
  have B_t := B.there
  cases hg : good l
  · have HV := Lib.hid (fsV_bad (t := t) hg)
    go_wp2
    go_ret2
    exact rpost (by rw [HV.out] <;> rfl) B.below
  have HG := Lib.hid hg; clear hg
  have HA := Lib.hid (good_mem HG.out)
  go_wp2_with fail
  refine (one_spec t _).mono ?_
  rintro e v3 ⟨rfl, hv3⟩
  clear B_0 B_1 B_2 B_3 B_4 B_f0 B_f1 B_f2 B_f3 B_f4 B_t
  replace B := B.more hv3
  have zhv3 := hv3.size
  clear hv3
  have B_0 := B.cells 0 _ rfl
  have B_1 := B.cells 1 _ rfl
  have B_2 := B.cells 2 _ rfl
  have B_3 := B.cells 3 _ rfl
  have B_4 := B.cells 4 _ rfl
  have B_f0 := B.free 0 (by simp)
  have B_f1 := B.free 1 (by simp)
  have B_f2 := B.free 2 (by simp)
  have B_f3 := B.free 3 (by simp)
  have B_f4 := B.free 4 (by simp)
  have B_t := B.there
  cases hok : okT t
  · have HV := Lib.hid (fsV_none (l := l) (t := t) (fs_bad hok))
    go_wp2
    go_ret2
    exact rpost (by rw [HV.out] <;> rfl) B.below
  clear hok
  go_wp2_with fail
  refine (find_spec P cap l t.f0 _ ((HR.out.below B.below (Nat.le_refl _)).mono B.below.size) hn).mono ?_
  rintro e _ ⟨rfl, rfl⟩
  cases hf : fnd l t.f0 with
  | some k =>
    have HV := Lib.hid (fsV_took hf)
    rw [fndI_some hf]
    have h0 : decide ((0 : Int) ≤ (k : Int)) = true := decide_eq_true (by omega)
    go_wp2
    go_ret2
    exact rpost (by rw [HV.out] <;> rfl) B.below
  | none =>
  rw [fndI_none hf]
  have HF := Lib.hid hf; clear hf
  go_wp2_with fail
  clear B_0 B_1 B_2 B_3 B_4 B_f0 B_f1 B_f2 B_f3 B_f4 B_t
  go_loopw [] (fun wr => ∃ s : Int, Hid (fs l t t.f3 = fs l t s) ∧ Box w.heap.size [.int .i64 t.f0, .int .i64 t.f1, .int .i64 t.f2, .int .i64 s, .int .i64 t.f4] w wr) (fun wr => (1442 - cellI wr w.heap.size 3).toNat)
  case atStart => exact ⟨t.f3, Lib.hid rfl, B⟩
  case round =>
    clear B
    obtain ⟨s, HS, B⟩ := hrel
    have HC := Lib.hid (cellI_box (i := 3) (s := s) B rfl)
    have B_0 := B.cells 0 _ rfl
    have B_1 := B.cells 1 _ rfl
    have B_2 := B.cells 2 _ rfl
    have B_3 := B.cells 3 _ rfl
    have B_4 := B.cells 4 _ rfl
    have B_f0 := B.free 0 (by simp)
    have B_f1 := B.free 1 (by simp)
    have B_f2 := B.free 2 (by simp)
    have B_f3 := B.free 3 (by simp)
    have B_f4 := B.free 4 (by simp)
    have B_t := B.there
    go_wp2_with fail
    refine (one_spec (later t s) _).mono ?_
    rintro e v1 ⟨rfl, hv1⟩
    clear B_0 B_1 B_2 B_3 B_4 B_f0 B_f1 B_f2 B_f3 B_f4 B_t
    replace B := B.more hv1
    have zhv1 := hv1.size
    clear hv1
    have B_0 := B.cells 0 _ rfl
    have B_1 := B.cells 1 _ rfl
    have B_2 := B.cells 2 _ rfl
    have B_3 := B.cells 3 _ rfl
    have B_4 := B.cells 4 _ rfl
    have B_f0 := B.free 0 (by simp)
    have B_f1 := B.free 1 (by simp)
    have B_f2 := B.free 2 (by simp)
    have B_f3 := B.free 3 (by simp)
    have B_f4 := B.free 4 (by simp)
    have B_t := B.there
    cases hok : okT (later t s)
    · have HV := Lib.hid (fsV_none (HS.out.trans (fs_bad hok)))
      go_wp2
      go_ret2
      exact rpost (by rw [HV.out] <;> rfl) B.below
    have HOK := Lib.hid hok
    have hs : s ≤ 1440 := (okT_true hok).2.2.2.2.2.2.2.2.1
    have hs0 : 0 ≤ s := (okT_true hok).2.2.2.2.2.2.2.1
    go_wp2_with fail
    refine (free_spec P cap l (later t s) HA.out HOK.out _ ((HR.out.below B.below (Nat.le_refl _)).mono B.below.size) hn).mono ?_
    rintro e v2 ⟨rfl, hv2⟩
    clear B_0 B_1 B_2 B_3 B_4 B_f0 B_f1 B_f2 B_f3 B_f4 B_t
    replace B := B.more hv2
    have zhv2 := hv2.size
    clear hv2
    have B_0 := B.cells 0 _ rfl
    have B_1 := B.cells 1 _ rfl
    have B_2 := B.cells 2 _ rfl
    have B_3 := B.cells 3 _ rfl
    have B_4 := B.cells 4 _ rfl
    have B_f0 := B.free 0 (by simp)
    have B_f1 := B.free 1 (by simp)
    have B_f2 := B.free 2 (by simp)
    have B_f3 := B.free 3 (by simp)
    have B_f4 := B.free 4 (by simp)
    have B_t := B.there
    cases hf : freeB l (later t s)
    · have HN := Lib.hid (HS.out.trans (fs_next HOK.out hf))
      have y1 : IntKind.i64.wrap (s + 1) = s + 1 := IntWalk.i64_in _ (by omega)
      have B2 := B.set 3 (.int .i64 (s + 1))
      have HC2 := Lib.hid (cellI_box (i := 3) (s := s + 1) B2 rfl)
      go_wp2
      go_roundw
      case rel => exact ⟨s + 1, HN, B2⟩
      case measure => rw [HC.out, HC2.out]; omega
    · have HV := Lib.hid (fsV_some HG.out HF.out (HS.out.trans (fs_free HOK.out hf)))
      go_wp2
      go_ret2
      exact rpost (by rw [HV.out] <;> rfl) B.below
set_option maxHeartbeats 1600000 in
theorem fs_impl (P : Option Addr) (cap : Nat) (l : List R) (t : R) (w : World) (hr : Rd w w.heap.size P (flat l)) (hcp : l.length ≤ cap) (hn : l.length ≤ 1048576) :
    Calls Try.prog 13 #[.slice P l.length cap, .agg #[.int .i64 t.f0, .int .i64 t.f1, .int .i64 t.f2, .int .i64 t.f3, .int .i64 t.f4]] w (RPost (fsV l t) w) := by
  have HR := Lib.hid hr; clear hr
  go_enter Try.func13, Try.ntmps13
  go_wp2_with fail
  have B := Box.new (Below.refl _ w) [.int .i64 t.f0, .int .i64 t.f1, .int .i64 t.f2, .int .i64 t.f3, .int .i64 t.f4] 25 (g := w.heap.size) rfl
  generalize (w.alloc (.cells #[.int .i64 t.f0, .int .i64 t.f1, .int .i64 t.f2, .int .i64 t.f3, .int .i64 t.f4] 25)) = W1 at B ⊢
  have B_0 := B.cells 0 _ rfl
  have B_1 := B.cells 1 _ rfl
  have B_2 := B.cells 2 _ rfl
  have B_3 := B.cells 3 _ rfl
  have B_4 := B.cells 4 _ rfl
  have B_f0 := B.free 0 (by simp)
  have B_f1 := B.free 1 (by simp)
  have B_f2 := B.free 2 (by simp)
  have B_f3 := B.free 3 (by simp)
  have B_f4 := B.free 4 (by simp)
  have B_t := B.there
  cases hg : good l
  · have HV := Lib.hid (fsV_bad (t := t) hg)
    go_wp2_with fail
    refine (find_impl P cap l t.f0 _ ((HR.out.below B.below (Nat.le_refl _)).mono B.below.size) hn).mono ?_
    rintro e v2 ⟨rfl, hv2⟩
    clear B_0 B_1 B_2 B_3 B_4 B_f0 B_f1 B_f2 B_f3 B_f4 B_t
    replace B := B.more hv2
    have zhv2 := hv2.size
    clear hv2
    have B_0 := B.cells 0 _ rfl
    have B_1 := B.cells 1 _ rfl
    have B_2 := B.cells 2 _ rfl
    have B_3 := B.cells 3 _ rfl
    have B_4 := B.cells 4 _ rfl
    have B_f0 := B.free 0 (by simp)
    have B_f1 := B.free 1 (by simp)
    have B_f2 := B.free 2 (by simp)
    have B_f3 := B.free 3 (by simp)
    have B_f4 := B.free 4 (by simp)
    have B_t := B.there
    rw [ftV_bad hg]
    go_wp2_with fail
    refine (are_impl P cap l _ ((HR.out.below B.below (Nat.le_refl _)).mono B.below.size) hn).mono ?_
    rintro e v3 ⟨rfl, hv3⟩
    clear B_0 B_1 B_2 B_3 B_4 B_f0 B_f1 B_f2 B_f3 B_f4 B_t
    replace B := B.more hv3
    have zhv3 := hv3.size
    clear hv3
    have B_0 := B.cells 0 _ rfl
    have B_1 := B.cells 1 _ rfl
    have B_2 := B.cells 2 _ rfl
    have B_3 := B.cells 3 _ rfl
    have B_4 := B.cells 4 _ rfl
    have B_f0 := B.free 0 (by simp)
    have B_f1 := B.free 1 (by simp)
    have B_f2 := B.free 2 (by simp)
    have B_f3 := B.free 3 (by simp)
    have B_f4 := B.free 4 (by simp)
    have B_t := B.there
    rw [hg]
    go_wp2
    go_ret2
    exact rpost (by rw [HV.out] <;> rfl) B.below
  have HG := Lib.hid hg; clear hg
  have HA := Lib.hid (good_mem HG.out)
  cases hf : fnd l t.f0 with
  | some k =>
    have HV := Lib.hid (fsV_took hf)
    have HT := Lib.hid (ftV_some HG.out hf)
    clear hf
    go_wp2_with fail
    refine (find_impl P cap l t.f0 _ ((HR.out.below B.below (Nat.le_refl _)).mono B.below.size) hn).mono ?_
    rintro e v4 ⟨rfl, hv4⟩
    clear B_0 B_1 B_2 B_3 B_4 B_f0 B_f1 B_f2 B_f3 B_f4 B_t
    replace B := B.more hv4
    have zhv4 := hv4.size
    clear hv4
    have B_0 := B.cells 0 _ rfl
    have B_1 := B.cells 1 _ rfl
    have B_2 := B.cells 2 _ rfl
    have B_3 := B.cells 3 _ rfl
    have B_4 := B.cells 4 _ rfl
    have B_f0 := B.free 0 (by simp)
    have B_f1 := B.free 1 (by simp)
    have B_f2 := B.free 2 (by simp)
    have B_f3 := B.free 3 (by simp)
    have B_f4 := B.free 4 (by simp)
    have B_t := B.there
    rw [HT.out]
    go_wp2_with fail
    refine (are_impl P cap l _ ((HR.out.below B.below (Nat.le_refl _)).mono B.below.size) hn).mono ?_
    rintro e v5 ⟨rfl, hv5⟩
    clear B_0 B_1 B_2 B_3 B_4 B_f0 B_f1 B_f2 B_f3 B_f4 B_t
    replace B := B.more hv5
    have zhv5 := hv5.size
    clear hv5
    have B_0 := B.cells 0 _ rfl
    have B_1 := B.cells 1 _ rfl
    have B_2 := B.cells 2 _ rfl
    have B_3 := B.cells 3 _ rfl
    have B_4 := B.cells 4 _ rfl
    have B_f0 := B.free 0 (by simp)
    have B_f1 := B.free 1 (by simp)
    have B_f2 := B.free 2 (by simp)
    have B_f3 := B.free 3 (by simp)
    have B_f4 := B.free 4 (by simp)
    have B_t := B.there
    rw [HG.out]
    go_wp2
    go_ret2
    exact rpost (by rw [HV.out] <;> rfl) B.below
  | none =>
  have B_0 := B.cells 0 _ rfl
  have B_1 := B.cells 1 _ rfl
  have B_2 := B.cells 2 _ rfl
  have B_3 := B.cells 3 _ rfl
  have B_4 := B.cells 4 _ rfl
  have B_f0 := B.free 0 (by simp)
  have B_f1 := B.free 1 (by simp)
  have B_f2 := B.free 2 (by simp)
  have B_f3 := B.free 3 (by simp)
  have B_f4 := B.free 4 (by simp)
  have B_t := B.there
  have HF := Lib.hid hf
  have HT := Lib.hid (ftV_none HG.out hf)
  clear hf
  go_wp2_with fail
  refine (find_impl P cap l t.f0 _ ((HR.out.below B.below (Nat.le_refl _)).mono B.below.size) hn).mono ?_
  rintro e v1 ⟨rfl, hv1⟩
  clear B_0 B_1 B_2 B_3 B_4 B_f0 B_f1 B_f2 B_f3 B_f4 B_t
  replace B := B.more hv1
  have zhv1 := hv1.size
  clear hv1
  have B_0 := B.cells 0 _ rfl
  have B_1 := B.cells 1 _ rfl
  have B_2 := B.cells 2 _ rfl
  have B_3 := B.cells 3 _ rfl
  have B_4 := B.cells 4 _ rfl
  have B_f0 := B.free 0 (by simp)
  have B_f1 := B.free 1 (by simp)
  have B_f2 := B.free 2 (by simp)
  have B_f3 := B.free 3 (by simp)
  have B_f4 := B.free 4 (by simp)
  have B_t := B.there
  rw [HT.out]
  go_wp2_with fail
  refine (are_impl P cap l _ ((HR.out.below B.below (Nat.le_refl _)).mono B.below.size) hn).mono ?_
  rintro e v2 ⟨rfl, hv2⟩
  clear B_0 B_1 B_2 B_3 B_4 B_f0 B_f1 B_f2 B_f3 B_f4 B_t
  replace B := B.more hv2
  have zhv2 := hv2.size
  clear hv2
  have B_0 := B.cells 0 _ rfl
  have B_1 := B.cells 1 _ rfl
  have B_2 := B.cells 2 _ rfl
  have B_3 := B.cells 3 _ rfl
  have B_4 := B.cells 4 _ rfl
  have B_f0 := B.free 0 (by simp)
  have B_f1 := B.free 1 (by simp)
  have B_f2 := B.free 2 (by simp)
  have B_f3 := B.free 3 (by simp)
  have B_f4 := B.free 4 (by simp)
  have B_t := B.there
  rw [HG.out]
  go_wp2_with fail
  clear B_0 B_1 B_2 B_3 B_4 B_f0 B_f1 B_f2 B_f3 B_f4 B_t
  go_loopw [] (fun wr => ∃ s : Int, Hid (fs l t t.f3 = fs l t s) ∧ Box w.heap.size [.int .i64 t.f0, .int .i64 t.f1, .int .i64 t.f2, .int .i64 s, .int .i64 t.f4] w wr) (fun wr => (1442 - cellI wr w.heap.size 3).toNat)
  case atStart => exact ⟨t.f3, Lib.hid rfl, B⟩
  case round =>
    clear B
    obtain ⟨s, HS, B⟩ := hrel
    have HC := Lib.hid (cellI_box (i := 3) (s := s) B rfl)
    have B_0 := B.cells 0 _ rfl
    have B_1 := B.cells 1 _ rfl
    have B_2 := B.cells 2 _ rfl
    have B_3 := B.cells 3 _ rfl
    have B_4 := B.cells 4 _ rfl
    have B_f0 := B.free 0 (by simp)
    have B_f1 := B.free 1 (by simp)
    have B_f2 := B.free 2 (by simp)
    have B_f3 := B.free 3 (by simp)
    have B_f4 := B.free 4 (by simp)
    have B_t := B.there
    go_wp2_with fail
    refine (one_impl (later t s) _).mono ?_
    rintro e v1 ⟨rfl, hv1⟩
    clear B_0 B_1 B_2 B_3 B_4 B_f0 B_f1 B_f2 B_f3 B_f4 B_t
    replace B := B.more hv1
    have zhv1 := hv1.size
    clear hv1
    have B_0 := B.cells 0 _ rfl
    have B_1 := B.cells 1 _ rfl
    have B_2 := B.cells 2 _ rfl
    have B_3 := B.cells 3 _ rfl
    have B_4 := B.cells 4 _ rfl
    have B_f0 := B.free 0 (by simp)
    have B_f1 := B.free 1 (by simp)
    have B_f2 := B.free 2 (by simp)
    have B_f3 := B.free 3 (by simp)
    have B_f4 := B.free 4 (by simp)
    have B_t := B.there
    cases hok : okT (later t s)
    · have HV := Lib.hid (fsV_none (HS.out.trans (fs_bad hok)))
      go_wp2
      go_ret2
      exact rpost (by rw [HV.out] <;> rfl) B.below
    have HOK := Lib.hid hok
    have hs : s ≤ 1440 := (okT_true hok).2.2.2.2.2.2.2.2.1
    have hs0 : 0 ≤ s := (okT_true hok).2.2.2.2.2.2.2.1
    go_wp2_with fail
    refine (other_impl P cap l (later t s) HA.out HOK.out _ ((HR.out.below B.below (Nat.le_refl _)).mono B.below.size) hn).mono ?_
    rintro e v2 ⟨rfl, hv2⟩
    clear B_0 B_1 B_2 B_3 B_4 B_f0 B_f1 B_f2 B_f3 B_f4 B_t
    replace B := B.more hv2
    have zhv2 := hv2.size
    clear hv2
    have B_0 := B.cells 0 _ rfl
    have B_1 := B.cells 1 _ rfl
    have B_2 := B.cells 2 _ rfl
    have B_3 := B.cells 3 _ rfl
    have B_4 := B.cells 4 _ rfl
    have B_f0 := B.free 0 (by simp)
    have B_f1 := B.free 1 (by simp)
    have B_f2 := B.free 2 (by simp)
    have B_f3 := B.free 3 (by simp)
    have B_f4 := B.free 4 (by simp)
    have B_t := B.there
    cases hf : freeB l (later t s)
    · have HN := Lib.hid (HS.out.trans (fs_next HOK.out hf))
      have y1 : IntKind.i64.wrap (s + 1) = s + 1 := IntWalk.i64_in _ (by omega)
      have B2 := B.set 3 (.int .i64 (s + 1))
      have HC2 := Lib.hid (cellI_box (i := 3) (s := s + 1) B2 rfl)
      go_wp2
      go_roundw
      case rel => exact ⟨s + 1, HN, B2⟩
      case measure => rw [HC.out, HC2.out]; omega
    · have HV := Lib.hid (fsV_some HG.out HF.out (HS.out.trans (fs_free HOK.out hf)))
      go_wp2
      go_ret2
      exact rpost (by rw [HV.out] <;> rfl) B.below
end Go.Proofs.Ytknlgdahcfgbeaa.TripF
