/- Ladders: OffRungs, DoesKeep. -/
import Derived.Test.YtngominkeammiaaLadW
namespace Go.Proofs.Ytngominkeammiaa.LadX
open Go.RowKit Go.Proofs.Ytngominkeammiaa.Mem Go.Proofs.Ytngominkeammiaa.Base Go.Proofs.Ytngominkeammiaa.Within Go.Proofs.Ytngominkeammiaa.Brine Go.Proofs.Ytngominkeammiaa.Regn Go.Proofs.Ytngominkeammiaa.Boxes Go.Proofs.Ytngominkeammiaa.Keep Go.Proofs.Ytngominkeammiaa.LadP Go.Proofs.Ytngominkeammiaa.LadS Go.Proofs.Ytngominkeammiaa.LadG Go.Proofs.Ytngominkeammiaa.LadW
open Go.Proofs.Ytngominkeammiaa.SInt (iv iv_len iv_get)
open Go.Proofs.Ytngominkeammiaa.SRung hiding RPost rpost
set_option linter.unusedVariables false
set_option linter.unusedSimpArgs false
set_option maxRecDepth 100000
def offOk (l : List R) (s : List SBasin.R) : Bool := good l && (SerH.good s && decide (l.length = s.length))
def offL (l : List R) (s : List SBasin.R) : List Int := if offOk l s = true then pick (offP l s) l.length else []
theorem off1 {l : List R} {s : List SBasin.R} (h : good l = false) : offOk l s = false := by unfold offOk; rw [h]; rfl
theorem off2 {l : List R} {s : List SBasin.R} (h : SerH.good s = false) : offOk l s = false := by unfold offOk; rw [h]; simp
theorem off3 {l : List R} {s : List SBasin.R} (h : ¬ l.length = s.length) : offOk l s = false := by unfold offOk; rw [decide_eq_false h]; simp
theorem off4 {l : List R} {s : List SBasin.R} (h : good l = true) (h1 : SerH.good s = true) (h2 : l.length = s.length) : offOk l s = true := by unfold offOk; rw [h, h1, decide_eq_true h2]; rfl
theorem offL_no {l : List R} {s : List SBasin.R} (h : offOk l s = false) : offL l s = [] := by unfold offL; rw [h]; rfl
theorem offL_yes {l : List R} {s : List SBasin.R} (h : offOk l s = true) : offL l s = pick (offP l s) l.length := by unfold offL; rw [if_pos h]
theorem off_parts {l : List R} {s : List SBasin.R} (h : offOk l s = true) : good l = true ∧ SerH.good s = true ∧ l.length = s.length := by
  unfold offOk at h
  simp only [Bool.and_eq_true, decide_eq_true_eq] at h
  exact ⟨h.1, h.2.1, h.2.2⟩
def keepV (l : List R) (s : List SBasin.R) : Value := .tuple #[.bool (offOk l s && decide ((offL l s).length = 0)), .bool (offOk l s)]
theorem keep_no {l : List R} {s : List SBasin.R} (h : offOk l s = false) : keepV l s = .tuple #[.bool false, .bool false] := by unfold keepV; rw [h]; rfl
theorem keep_yes {l : List R} {s : List SBasin.R} (h : offOk l s = true) {M : List Int} (hM : offL l s = M) : keepV l s = .tuple #[.bool (decide (M.length = 0)), .bool true] := by unfold keepV; rw [h, hM]; rfl
theorem keep_form (l : List R) (s : List SBasin.R) : ∃ x q, keepV l s = .tuple #[.bool x, .bool q] := ⟨_, _, rfl⟩
theorem len_eq (n : Nat) : ((n : Int) == 0) = decide (n = 0) := by
  by_cases h : n = 0
  · subst h; rfl
  · rw [decide_eq_false h, beq_eq_false_iff_ne]; omega
set_option maxHeartbeats 400000 in
theorem both_spec (P P' : Option Addr) (cap cap' : Nat) (l : List R) (s : List SBasin.R) (w : World) (hr : Rd w w.heap.size P (flat l)) (hr' : Rd w w.heap.size P' (SBasin.flat s)) (hn : l.length ≤ 1048576) (hn' : s.length ≤ 1048576) :
    Calls Try.prog 71 #[.slice P l.length cap, .slice P' s.length cap'] w (RPost (.bool (offOk l s)) w) := by
  have HR := Lib.hid hr; have HS := Lib.hid hr'; clear hr hr'
  go_enter Try.func71, Try.ntmps71
  go_wp2_with fail
  refine (good_spec P cap l w HR.out hn).mono ?_
  rintro e w1 ⟨rfl, HB⟩
  cases hg : good l
  · have HV := Lib.hid (off1 (s := s) hg)
    go_wp2
    go_ret
    exact rpost (by rw [HV.out] <;> rfl) HB
  go_wp2_with fail
  refine (SerH.good_spec P' cap' s w1 (rd_keep HS.out HB) hn').mono ?_
  rintro e w2 ⟨rfl, HB2⟩
  replace HB := be HB HB2; clear HB2
  cases hs : SerH.good s
  · have HV := Lib.hid (off2 (l := l) hs)
    go_wp2
    go_ret
    exact rpost (by rw [HV.out] <;> rfl) HB
  by_cases he : l.length = s.length
  · have HV := Lib.hid (off4 hg hs he)
    have hq : ((l.length : Int) == (s.length : Int)) = true := by rw [beq_iff_eq]; omega
    have HE := Lib.hid he; clear he
    go_wp2
    go_ret
    exact rpost (by rw [HV.out] <;> rfl) HB
  · have HV := Lib.hid (off3 he)
    have hq : ((l.length : Int) == (s.length : Int)) = false := by rw [beq_eq_false_iff_ne]; omega
    clear he
    go_wp2
    go_ret
    exact rpost (by rw [HV.out] <;> rfl) HB
set_option maxHeartbeats 400000 in
theorem offr_spec (P P' : Option Addr) (cap cap' : Nat) (l : List R) (s : List SBasin.R) (w : World) (hr : Rd w w.heap.size P (flat l)) (hr' : Rd w w.heap.size P' (SBasin.flat s)) (hn : l.length ≤ 1048576) (hn' : s.length ≤ 1048576) :
    Calls Try.prog 30 #[.slice P l.length cap, .slice P' s.length cap'] w (IxPost (offL l s) (offOk l s) w) := by
  have HR := Lib.hid hr; have HS := Lib.hid hr'; clear hr hr'
  go_enter Try.func30, Try.ntmps30
  go_wp2_with fail
  refine (both_spec P P' cap cap' l s w HR.out HS.out hn hn').mono ?_
  rintro e w1 ⟨rfl, HB⟩
  cases hg : offOk l s
  · have HV := Lib.hid (And.intro (offL_no hg) hg)
    go_wp2
    go_ret2
    exact ix_mk HV.out.1 HV.out.2 rfl (iempty _ _ HB.size) (al HB)
  have HV := Lib.hid (And.intro (offL_yes hg) hg)
  obtain ⟨h1, h2, h3⟩ := off_parts hg
  have HC := Lib.hid (off_spec P P' cap cap' l s w1 (rd_keep HR.out HB) (rd_keep HS.out HB) h1 h2 h3)
  clear h1 h2 h3 hg
  go_wp2_with fail
  refine HC.out.mono ?_
  rintro e w2 ⟨A, c, rfl, O, HB2⟩
  replace O := own_base O HB.size
  replace HB := be HB HB2; clear HB2
  go_wp2
  go_ret2
  exact ix_mk HV.out.1 HV.out.2 rfl O HB
set_option maxHeartbeats 400000 in
theorem keep_spec (P P' : Option Addr) (cap cap' : Nat) (l : List R) (s : List SBasin.R) (w : World) (hr : Rd w w.heap.size P (flat l)) (hr' : Rd w w.heap.size P' (SBasin.flat s)) (hn : l.length ≤ 1048576) (hn' : s.length ≤ 1048576) :
    Calls Try.prog 28 #[.slice P l.length cap, .slice P' s.length cap'] w (RPost (keepV l s) w) := by
  have HR := Lib.hid hr; have HS := Lib.hid hr'; clear hr hr'
  go_enter Try.func28, Try.ntmps28
  go_wp2_with fail
  refine (both_spec P P' cap cap' l s w HR.out HS.out hn hn').mono ?_
  rintro e w1 ⟨rfl, HB⟩
  cases hg : offOk l s
  · have HV := Lib.hid (keep_no hg)
    go_wp2
    go_ret2
    exact rpost (by rw [HV.out] <;> rfl) HB
  obtain ⟨M, hM⟩ : ∃ M, pick (offP l s) l.length = M := ⟨_, rfl⟩
  have HV := Lib.hid (keep_yes hg ((offL_yes hg).trans hM))
  obtain ⟨h1, h2, h3⟩ := off_parts hg
  have hc := off_spec P P' cap cap' l s w1 (rd_keep HR.out HB) (rd_keep HS.out HB) h1 h2 h3
  rw [hM] at hc
  have HC := Lib.hid hc
  have HQ := Lib.hid (len_eq M.length)
  clear h1 h2 h3 hg hM hc
  go_wp2_with fail
  refine HC.out.mono ?_
  rintro e w2 ⟨A, c, rfl, O, HB2⟩
  replace HB := be HB HB2; clear HB2 O
  go_wp2
  go_ret2
  exact rpost (by rw [HV.out, ← HQ.out] <;> rfl) HB
set_option maxHeartbeats 800000 in
theorem offr_impl (P P' : Option Addr) (cap cap' : Nat) (l : List R) (s : List SBasin.R) (w : World) (hr : Rd w w.heap.size P (flat l)) (hr' : Rd w w.heap.size P' (SBasin.flat s)) (hn : l.length ≤ 1048576) (hn' : s.length ≤ 1048576) :
    Calls Try.prog 29 #[.slice P l.length cap, .slice P' s.length cap'] w (IxPost (offL l s) (offOk l s) w) := by
  have HR := Lib.hid hr; have HS := Lib.hid hr'; clear hr hr'
  have hmf : ∀ (fn : Fn) (first cap : Array Value) (w : World), (Instr.makeFunc fn first cap).run Try.prog w = .ok (.func fn first cap) w := fun _ _ _ _ => rfl
  go_enter Try.func29, Try.ntmps29
  go_wp2_with fail
  have Q := (Box.new (Below.refl _ w) [.slice P l.length cap] 24 (g := w.heap.size) rfl).alloc (.cells #[.slice P' s.length cap'] 40)
  have Z := Box.new (al (Below.refl _ w) (o := (.cells #[.slice P l.length cap] 24))) [.slice P' s.length cap'] 40 (g := w.heap.size + 1) (by simp only [size_alloc'])
  generalize ((w.alloc (.cells #[.slice P l.length cap] 24)).alloc (.cells #[.slice P' s.length cap'] 40)) = W1 at Q Z ⊢
  have Q_0 := Q.cells 0 _ rfl
  have Q_f0 := Q.free 0 (by simp)
  have Q_t := Q.there
  have Z_0 := Z.cells 0 _ rfl
  have Z_f0 := Z.free 0 (by simp)
  have Z_t := Z.there
  go_wp2_with fail
  refine (good_impl P cap l _ (rd_keep HR.out Q.below) hn).mono ?_
  rintro e v2 ⟨rfl, hv2⟩
  clear Q_0 Q_f0 Q_t
  clear Z_0 Z_f0 Z_t
  replace Q := Q.more hv2
  replace Z := Z.more hv2
  have zhv2 := hv2.size
  clear hv2
  have Q_0 := Q.cells 0 _ rfl
  have Q_f0 := Q.free 0 (by simp)
  have Q_t := Q.there
  have Z_0 := Z.cells 0 _ rfl
  have Z_f0 := Z.free 0 (by simp)
  have Z_t := Z.there
  cases hg : good l
  · have HV := Lib.hid (And.intro (offL_no (off1 (s := s) hg)) (off1 (s := s) hg))
    go_wp2
    go_ret2
    exact ix_mk HV.out.1 HV.out.2 rfl (iempty _ _ Q.below.size) (al Q.below)
  go_wp2_with fail
  refine (SerH.good_impl P' cap' s _ (rd_keep HS.out Q.below) hn').mono ?_
  rintro e v3 ⟨rfl, hv3⟩
  clear Q_0 Q_f0 Q_t
  clear Z_0 Z_f0 Z_t
  replace Q := Q.more hv3
  replace Z := Z.more hv3
  have zhv3 := hv3.size
  clear hv3
  have Q_0 := Q.cells 0 _ rfl
  have Q_f0 := Q.free 0 (by simp)
  have Q_t := Q.there
  have Z_0 := Z.cells 0 _ rfl
  have Z_f0 := Z.free 0 (by simp)
  have Z_t := Z.there
  cases hs : SerH.good s
  · have HV := Lib.hid (And.intro (offL_no (off2 (l := l) hs)) (off2 (l := l) hs))
    go_wp2
    go_ret2
    exact ix_mk HV.out.1 HV.out.2 rfl (iempty _ _ Q.below.size) (al Q.below)
  rcases Decidable.em (¬ l.length = s.length) with he | he
  · have HV := Lib.hid (And.intro (offL_no (off3 he)) (off3 he))
    have hq : ((l.length : Int) != (s.length : Int)) = true := by rw [bne_iff_ne]; omega
    clear he
    go_wp2
    go_ret2
    exact ix_mk HV.out.1 HV.out.2 rfl (iempty _ _ Q.below.size) (al Q.below)
  replace he := Decidable.not_not.1 he
  have hok := off4 hg hs he
  have HV := Lib.hid (And.intro (offL_yes hok) hok)
  have hq : ((l.length : Int) != (s.length : Int)) = false := by rw [bne_eq_false_iff_eq]; omega
  have h8 := (good_all hg).2.1
  have h0 := (good_all hg).1
  obtain ⟨b, o, rfl, hbl, hc⟩ := HR.out.at (k := 0 * 2) (by rw [flat_n]; omega)
  obtain ⟨b', o', rfl, hbl', hc'⟩ := HS.out.at (k := 0 * 3) (by rw [SBasin.flat_n]; omega)
  have HE := Lib.hid (show EnvO v3.heap.size (w.heap.size + 1) w.heap.size b' o' cap' s b o cap l v3 from ⟨Z_0, fun j v hj => ((bcell Q.below).1 _ _ hbl').trans (hc' j v hj), Q_0, fun j v hj => ((bcell Q.below).1 _ _ hbl).trans (hc j v hj)⟩)
  have HW := Lib.hid (whereO v3.heap.size (w.heap.size + 1) w.heap.size (EnvO v3.heap.size (w.heap.size + 1) w.heap.size b' o' cap' s b o cap l) (fun u u1 h hv => h.below Z_t Q_t (Nat.lt_of_lt_of_le hbl Q.below.size) (Nat.lt_of_lt_of_le hbl' Q.below.size) hv) (offP l s) l.length (fun u k hu hT hk => cloO v3.heap.size _ _ b' o' cap' s b o cap l hg hs he k u Z_t Q_t (Nat.lt_of_lt_of_le hbl Q.below.size) (Nat.lt_of_lt_of_le hbl' Q.below.size) hT hu hk) (some ⟨b, o, none⟩) cap v3 HE.out (Nat.le_refl _) (by omega))
  have hww := Lib.hid Q.below.size
  have HLS := Lib.hid he
  clear hg hs hok hc hc' he
  go_wp2_with fail
  refine (HW.out).mono ?_
  rintro e v4 ⟨A, c', rfl, O, hv4⟩
  clear Q_0 Q_f0 Q_t
  clear Z_0 Z_f0 Z_t
  replace Q := Q.more hv4
  replace Z := Z.more hv4
  have zhv4 := hv4.size
  clear hv4
  have Q_0 := Q.cells 0 _ rfl
  have Q_f0 := Q.free 0 (by simp)
  have Q_t := Q.there
  have Z_0 := Z.cells 0 _ rfl
  have Z_f0 := Z.free 0 (by simp)
  have Z_t := Z.there
  go_wp2
  go_ret2
  exact ix_mk HV.out.1 HV.out.2 rfl (own_base O hww.out) Q.below
set_option maxHeartbeats 400000 in
theorem keep_impl (P P' : Option Addr) (cap cap' : Nat) (l : List R) (s : List SBasin.R) (w : World) (hr : Rd w w.heap.size P (flat l)) (hr' : Rd w w.heap.size P' (SBasin.flat s)) (hn : l.length ≤ 1048576) (hn' : s.length ≤ 1048576) :
    Calls Try.prog 27 #[.slice P l.length cap, .slice P' s.length cap'] w (RPost (keepV l s) w) := by
  have HR := Lib.hid hr; have HS := Lib.hid hr'; clear hr hr'
  obtain ⟨M, hM⟩ : ∃ M, offL l s = M := ⟨_, rfl⟩
  have hc := offr_impl P P' cap cap' l s w HR.out HS.out hn hn'
  rw [hM] at hc
  have HC := Lib.hid hc
  have HQ := Lib.hid (len_eq M.length)
  have HM := Lib.hid hM
  clear hM hc
  go_enter Try.func27, Try.ntmps27
  go_wp2_with fail
  refine HC.out.mono ?_
  rintro e w1 ⟨A, c, rfl, O, HB⟩
  clear O
  cases hg : offOk l s
  · have HV := Lib.hid (keep_no hg)
    go_wp2
    go_ret2
    exact rpost (by rw [HV.out] <;> rfl) HB
  have HV := Lib.hid (keep_yes hg HM.out)
  clear hg
  go_wp2
  go_ret2
  exact rpost (by rw [HV.out, ← HQ.out] <;> rfl) HB
end Go.Proofs.Ytngominkeammiaa.LadX
