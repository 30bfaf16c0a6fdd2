/- Heaps: RainOn, the program's and the model's. -/
import Derived.Test.YtpbmncecejchjaaHeapX
namespace Go.Proofs.Ytpbmncecejchjaa.HeapN
open Go.RowKit Go.Proofs.Ytpbmncecejchjaa.Mem Go.Proofs.Ytpbmncecejchjaa.Base Go.Proofs.Ytpbmncecejchjaa.Within Go.Proofs.Ytpbmncecejchjaa.SInt Go.Proofs.Ytpbmncecejchjaa.Boxes Go.Proofs.Ytpbmncecejchjaa.Keep Go.Proofs.Ytpbmncecejchjaa.Regn Go.Proofs.Ytpbmncecejchjaa.Nest Go.Proofs.Ytpbmncecejchjaa.HeapS Go.Proofs.Ytpbmncecejchjaa.HeapW Go.Proofs.Ytpbmncecejchjaa.HeapE Go.Proofs.Ytpbmncecejchjaa.Heap Go.Proofs.Ytpbmncecejchjaa.Heap2 Go.Proofs.Ytpbmncecejchjaa.Heap3 Go.Proofs.Ytpbmncecejchjaa.HeapG Go.Proofs.Ytpbmncecejchjaa.HeapT Go.Proofs.Ytpbmncecejchjaa.HeapC Go.Proofs.Ytpbmncecejchjaa.HeapU Go.Proofs.Ytpbmncecejchjaa.HeapV Go.Proofs.Ytpbmncecejchjaa.HeapX
open Go.Proofs.Ytpbmncecejchjaa.HeapP hiding openH
set_option linter.unusedVariables false
set_option maxRecDepth 100000
/-- a list of heaps of the call's own, a number and a truth. -/
def XPost (F : List H) (y : Int) (q : Bool) (w : World) (e : Ending) (w' : World) : Prop :=
  ∃ (m : List R) (A : Option Addr) (c : Nat), pl m = F ∧ e = .returned (.tuple #[.slice A m.length c, .int .i64 y, .bool q]) ∧ Own w' w.heap.size w'.heap.size A c m ∧ Below w.heap.size w w'
theorem x_mk {F : List H} {y z : Int} {q r : Bool} {w w' : World} {m : List R} {A : Option Addr} {c : Nat} {v : Value} (hF : F = pl m) (hy : y = z) (hq : q = r) (h : v = .tuple #[.slice A m.length c, .int .i64 z, .bool r])
    (ho : Own w' w.heap.size w'.heap.size A c m) (hB : Below w.heap.size w w') : XPost F y q w (.returned v) w' := by
  subst hq; subst hy; exact ⟨m, A, c, hF.symm, by rw [h], ho, hB⟩
/-- the first k heaps after the rain. -/
def half7 (l : List H) (r : Int) (k : Nat) : List H := (l.take k).map (rainOne r) ++ l.drop k
theorem half7_zero (l : List H) (r : Int) : half7 l r 0 = l := by simp [half7]
theorem half7_full (l : List H) (r : Int) {k : Nat} (h : l.length ≤ k) : half7 l r k = l.map (rainOne r) := by simp [half7, List.take_of_length_le h, List.drop_eq_nil_of_le h]
theorem half7_at (l : List H) (r : Int) (k : Nat) (h : k < l.length) (h2 : k < (half7 l r k).length) : (half7 l r k)[k] = l[k] := by
  have h3 : (half7 l r k)[k]? = some l[k] := by
    show ((l.take k).map (rainOne r) ++ l.drop k)[k]? = some l[k]
    have hl : ((l.take k).map (rainOne r)).length = k := by simp; omega
    rw [List.getElem?_append_right (by omega), hl, Nat.sub_self, List.getElem?_drop, Nat.add_zero, List.getElem?_eq_getElem h]
  rw [List.getElem?_eq_getElem h2] at h3
  exact Option.some.inj h3
theorem half7_len (l : List H) (r : Int) (k : Nat) (h : k ≤ l.length) : (half7 l r k).length = l.length := by simp [half7]; omega
theorem half7_set (l : List H) (r : Int) (k : Nat) (h : k < l.length) : (half7 l r k).set k (rainOne r l[k]) = half7 l r (k + 1) := by
  unfold half7
  have hl : ((l.take k).map (rainOne r)).length = k := by simp; omega
  rw [List.set_append_right _ _ (by omega), hl, Nat.sub_self, List.drop_eq_getElem_cons h, List.set_cons_zero, List.take_succ_eq_append_getElem h, List.map_append, List.append_assoc]
  rfl
theorem half7_same (l : List H) (r : Int) (k : Nat) (h : k < l.length) (h2 : openH l[k] = false) : half7 l r (k + 1) = half7 l r k := by
  have e : rainOne r l[k] = l[k] := by unfold rainOne; rw [h2]; rfl
  rw [← half7_set l r k h, e]
  apply List.ext_getElem?
  intro j
  rw [List.getElem?_set]
  split
  · rename_i h1; subst h1
    have h3 : k < (half7 l r k).length := by rw [half7_len l r k (by omega)]; exact h
    rw [if_pos h3, List.getElem?_eq_getElem h3, half7_at l r k h h3]
  · rfl
theorem m_at {m : List R} {L : List H} {k : Nat} {y : R} (hm : pl m = L) (hk : k < m.length) (hy : m[k] = y) : ∃ (h : k < L.length), L[k] = y.pure := by
  subst hm; exact ⟨pl_lt hk, pl_x hk hy⟩
theorem washed_yes {x : H} (r : Int) (h : openH x = true) : washed r x = min (r / 10) (topE 501 x.ls) := by unfold washed; rw [if_pos h]
theorem washed_no {x : H} (r : Int) (h : openH x = false) : washed r x = 0 := by unfold washed; rw [h]; rfl
theorem open_top {x : H} (h : openH x = true) (ho : okLs x.ls = true) : 1 ≤ topE 501 x.ls ∧ topE 501 x.ls ≤ 500 ∧ topE 1000 x.ls = topE 501 x.ls := by
  unfold openH at h
  rw [Bool.and_eq_true, decide_eq_true_eq] at h
  rcases topE_bd (e := 501) (okLs_mem ho) with ⟨a, _⟩ | ⟨a, b, c, d⟩
  · rw [a] at h; simp at h
  · exact ⟨b, c, d 1000⟩
theorem pl_setp {m : List R} {L : List H} {k : Nat} {y : R} (hp : pl m = L) : pl (m.set k y) = L.set k y.pure := by
  subst hp; simp [pl, List.map_set]
set_option maxHeartbeats 1600000 in
theorem rain_impl (P : Option Addr) (cap : Nat) (l : List R) (r : Int) (w : World) (hr : Hs w w.heap.size P l) :
    Calls Try.prog 56 #[.slice P l.length cap, .int .i64 r] w (XPost (rainH (pl l) r) (rainI (pl l) r) (rainOk (pl l) r) w) := by
  have hn := hr.len
  have HR := Lib.hid hr; clear hr
  go_enter Try.func56, Try.ntmps56
  go_wp2_with fail
  refine (are_impl P cap l w HR.out).mono ?_
  rintro e w1 ⟨rfl, HB⟩
  have HV0 := Lib.hid (show rainOk (pl l) r = (good (pl l) && inB r 0 300) from rfl)
  cases hg : good (pl l)
  · have HV := Lib.hid (show rainOk (pl l) r = false by rw [HV0.out, hg]; rfl)
    have O := h_none HB
    go_wp2
    go_ret3
    exact x_mk (m := []) (rain_no HV.out).1 (rain_no HV.out).2 HV.out rfl O (al HB)
  cases h6 : inB r 0 300
  · have HV := Lib.hid (show rainOk (pl l) r = false by rw [HV0.out, hg, h6]; rfl)
    have O := h_none HB
    go_wp2_with (go_at_call 78; (with_reducible refine (within_any _ _ _ _).mono ?_); rintro e' w' ⟨rfl, rfl⟩; try rw [h6])
    go_ret3
    exact x_mk (m := []) (rain_no HV.out).1 (rain_no HV.out).2 HV.out rfl O (al HB)
  have HV := Lib.hid (show rainOk (pl l) r = true by rw [HV0.out, hg, h6]; rfl)
  have HG := Lib.hid hg; clear hg HV0
  have hrb := of_inB h6
  go_wp2_with (go_at_call 78; (with_reducible refine (within_any _ _ _ _).mono ?_); rintro e' w' ⟨rfl, rfl⟩; try rw [h6])
  clear h6
  refine (copy_impl _ cap l w1 (HR.out.keep HB)).mono ?_
  rintro e w3 ⟨m, A3, c3, hm, rfl, O3, hB3⟩
  have HML := Lib.hid (show m.length = l.length by rw [← pl_len m, hm, pl_len])
  have HO3 := Lib.hid (O3.base HB.size); clear O3
  replace HB := be HB hB3
  have hl10 : m.length ≤ 10 := by have := good_len HG.out; rw [pl_len] at this; have := HML.out; omega
  go_wp2
  go_loopw [8, 25] (fun s i wr => ∃ (k : Nat) (z : Int) (n : List R), k ≤ m.length ∧ i = .int .i64 k ∧ s = .int .i64 z ∧ Hid (lostI ((pl l).take k) r = z) ∧ 0 ≤ z ∧ z ≤ 30 * k ∧ Hid (n.length = m.length) ∧ Hid (pl n = half7 (pl l) r k) ∧ Hid (Own wr w.heap.size wr.heap.size A3 c3 n) ∧ Below w.heap.size w wr) (fun _ i _ => m.length - (intOf i).toNat)
  case atStart => exact ⟨0, 0, m, Nat.zero_le _, rfl, rfl, Lib.hid rfl, by omega, by omega, Lib.hid rfl, Lib.hid (by rw [half7_zero]; exact hm), HO3, HB⟩
  case round =>
    clear HO3 HB hm
    obtain ⟨k, z, n, hk, rfl, rfl, HZ, z0, z1, HN, HP, HO, HB⟩ := hrel
    by_cases hlt : k < m.length
    · have hkn : k < n.length := by rw [HN.out]; exact hlt
      have hkl : k < (pl l).length := by rw [pl_len]; have := HML.out; omega
      obtain ⟨g, rfl⟩ := HO.out.ptr (by omega)
      obtain ⟨y, hy⟩ : ∃ y, n[k] = y := ⟨_, rfl⟩
      have hyp : (pl l)[k] = y.pure := by
        obtain ⟨h1, h2⟩ := m_at HP.out hkn hy
        rw [← half7_at (pl l) r k hkl h1]; exact h2
      have hok : okLs y.f2.ls = true := by have := (okH_true (good_get HG.out k hkl)).2.2.2.2; rw [hyp] at this; exact this
      obtain ⟨c0, c1, c2, c4⟩ := HO.out.at hkn hy
      have HT := Lib.hid ((lost_take (r := r) hkl hyp).trans (by rw [HZ.out]))
      have HROW := Lib.hid (show RowOwn wr w.heap.size y.f2 by rw [← hy]; exact HO.out.row hkn)
      have hyn : y.f2.ls.length ≤ 12 := okLs_len hok
      have HOK := Lib.hid hok
      have HY := Lib.hid hy; have HKN := Lib.hid hkn; have HKL := Lib.hid hkl; have HYP := Lib.hid hyp; have HLT := Lib.hid hlt
      have hgl : g < wr.heap.size := own_lt HO.out.out
      clear hok hy hyp
      have hba := al (Below.refl wr.heap.size wr) (o := .cells #[.int .i64 y.f0, .int .i64 y.f1, .slice y.f2.A y.f2.ls.length y.f2.cap, .bool y.f3] 91)
      have B0 := Box.new (Below.refl _ wr) [.int .i64 y.f0, .int .i64 y.f1, .slice y.f2.A y.f2.ls.length y.f2.cap, .bool y.f3] 91 (g := wr.heap.size) rfl
      go_wp2_with fail
      refine (open_impl y _ (by omega)).mono ?_
      rintro e w2 ⟨rfl, hB2⟩
      have B2 := B0.more hB2
      have hb2 := be hba hB2
      have HB2 := Lib.hid hb2
      have hO2 := HO.out.keep hb2
      have HO2 := Lib.hid (hO2.mono hb2.size)
      have HROW2 := Lib.hid (HROW.out.keep hb2)
      clear c0 c1 c2 c4 hba B0 hB2 hO2
      have hop0 : HeapP.openH y.pure = openH y.pure := rfl
      rw [hop0]
      clear hop0
      cases hop : openH y.pure
      · have HZ2 := Lib.hid (show lostI ((pl l).take (k + 1)) r = z by rw [HT.out, washed_no r hop]; omega)
        have HP2 := Lib.hid (show pl n = half7 (pl l) r (k + 1) by rw [half7_same (pl l) r k HKL.out (by rw [HYP.out]; exact hop)]; exact HP.out)
        clear hb2 B2
        go_wp2
        go_roundw
        case rel => exact ⟨k + 1, z, n, HLT.out, by go_num, rfl, HZ2, z0, by omega, HN, HP2, HO2, be HB HB2.out⟩
        case measure => have := HLT.out; simp [intOf]; omega
      · obtain ⟨t1, t2, _⟩ := open_top hop HOK.out
        have HOP := Lib.hid hop; clear hop
        have hdiv : r.tdiv 10 = r / 10 := Int.tdiv_eq_ediv_of_nonneg hrb.1
        obtain ⟨tp, htp⟩ : ∃ tp, topE 501 y.f2.ls = tp := ⟨_, rfl⟩
        have t1' : 1 ≤ tp := by rw [← htp]; exact t1
        have t2' : tp ≤ 500 := by rw [← htp]; exact t2
        have HTP := Lib.hid htp; clear htp t1 t2
        have y0 := B2.cells 0 _ rfl; have y1 := B2.cells 1 _ rfl; have y2 := B2.cells 2 _ rfl; have y3 := B2.cells 3 _ rfl
        have HW := Lib.hid (show washed r y.pure = min (r / 10) tp by rw [washed_yes r HOP.out, ← HTP.out]; rfl)
        have HBX := Lib.hid B2; clear B2 hb2
        have hd0 : 0 ≤ r / 10 := by omega
        have hd1 : r / 10 ≤ 30 := by omega
        have HRB := Lib.hid hrb
        have yA : IntKind.i64.wrap (z + r / 10) = z + r / 10 := IntWalk.i64_in _ (by omega)
        have yB : IntKind.i64.wrap (z + tp) = z + tp := IntWalk.i64_in _ (by omega)
        rcases Int.lt_trichotomy (r / 10) tp with h9 | h9 | h9
        all_goals
          go_wp2_with (go_at_call 114; (with_reducible refine (top_impl y.f2.A y.f2.cap y.f2.ls _ HROW2.out.rd (by omega)).mono ?_); rintro e' w' ⟨rfl, rfl⟩; rw [HTP.out])
          refine (HeapU.take_impl y.f2.A y.f2.cap y.f2.ls _ w.heap.size w2 HROW2.out (okLs_mem HOK.out) (by omega) (by omega) (by omega)).mono ?_
          rintro e w9 ⟨rfl, hro, hgr⟩
          have hp9 := inRow HO2.out HKN.out hro (by rw [HY.out]; exact blk_same _ _ _ _) (by rw [HY.out]; exact hgr)
          rw [HY.out] at hp9
          have hd := own_at hp9.1 HKN.out HY.out
          have d2 := hd.2.2.1
          have d4 : w9.frozen? ⟨g, k * 4 + 2, none⟩ = false := hp9.1.frozenAt _
          have HP9 := Lib.hid hp9.2
          have HGR := Lib.hid hgr
          have H9 := Lib.hid h9
          clear hd hp9 hro hgr y0 y1 y2 y3
          go_wp2
          go_roundw
          case rel =>
            have h9 := H9.out
            refine ⟨k + 1, _, n.set k ⟨y.f0, y.f1, _, y.f3⟩, HLT.out, by go_num, rfl, Lib.hid (by rw [HT.out, HW.out]; omega), by omega, by push_cast; omega, Lib.hid (by rw [List.length_set]; exact HN.out), Lib.hid ?_, Lib.hid (by simp only [size_set']; exact HP9.out), (bl_grown (be HB HB2.out) HGR.out (fun j hj => (HROW.out.lt j hj).1)).setCell (own_ge HO.out.out g rfl) _⟩
            rw [pl_setp HP.out, ← half7_set (pl l) r k HKL.out, HYP.out]
            congr 1
            unfold rainOne
            rw [if_pos HOP.out, HW.out]
            first | (rw [show min (r / 10) tp = r / 10 by omega]; rfl) | (rw [show min (r / 10) tp = tp by omega]; rfl)
          case measure => have := HLT.out; simp [intOf]; omega
    · have hkk : k = m.length := by omega
      have HF := Lib.hid (show rainH (pl l) r = pl n by rw [(rain_yes HV.out).1, HP.out, half7_full (pl l) r (by rw [pl_len]; have := HML.out; omega)])
      have HL := Lib.hid (show rainI (pl l) r = z by rw [(rain_yes HV.out).2]; have := HZ.out; rwa [List.take_of_length_le (by rw [pl_len]; have := HML.out; omega)] at this)
      go_wp2
      go_ret3
      exact x_mk (m := n) HF.out HL.out HV.out (by rw [HN.out]; rfl) HO.out HB
set_option maxHeartbeats 1600000 in
theorem rain_spec (P : Option Addr) (cap : Nat) (l : List R) (r : Int) (w : World) (hr : Hs w w.heap.size P l) :
    Calls Try.prog 57 #[.slice P l.length cap, .int .i64 r] w (XPost (rainH (pl l) r) (rainI (pl l) r) (rainOk (pl l) r) w) := by
  have hn := hr.len
  have HR := Lib.hid hr; clear hr
  go_enter Try.func57, Try.ntmps57
  go_wp2_with fail
  refine (good_spec P cap l w HR.out).mono ?_
  rintro e w1 ⟨rfl, HB⟩
  have HV0 := Lib.hid (show rainOk (pl l) r = (good (pl l) && inB r 0 300) from rfl)
  cases hg : good (pl l)
  · have HV := Lib.hid (show rainOk (pl l) r = false by rw [HV0.out, hg]; rfl)
    have O := h_none HB
    go_wp2
    go_ret3
    exact x_mk (m := []) (rain_no HV.out).1 (rain_no HV.out).2 HV.out rfl O (al HB)
  cases h6 : inB r 0 300
  · have HV := Lib.hid (show rainOk (pl l) r = false by rw [HV0.out, hg, h6]; rfl)
    have O := h_none HB
    go_wp2_with (go_at_call 82; (with_reducible refine (in_any _ _ _ _).mono ?_); rintro e' w' ⟨rfl, rfl⟩; try rw [h6])
    go_ret3
    exact x_mk (m := []) (rain_no HV.out).1 (rain_no HV.out).2 HV.out rfl O (al HB)
  have HV := Lib.hid (show rainOk (pl l) r = true by rw [HV0.out, hg, h6]; rfl)
  have HG := Lib.hid hg; clear hg HV0
  have hrb := of_inB h6
  go_wp2_with (go_at_call 82; (with_reducible refine (in_any _ _ _ _).mono ?_); rintro e' w' ⟨rfl, rfl⟩; try rw [h6])
  clear h6
  refine (ownL_spec _ cap l w1 (HR.out.keep HB)).mono ?_
  rintro e w3 ⟨m, A3, c3, hm, rfl, O3, hB3⟩
  have HML := Lib.hid (show m.length = l.length by rw [← pl_len m, hm, pl_len])
  have HO3 := Lib.hid (O3.base HB.size); clear O3
  replace HB := be HB hB3
  have hl10 : m.length ≤ 10 := by have := good_len HG.out; rw [pl_len] at this; have := HML.out; omega
  go_wp2
  go_loopw [8, 9] (fun s i wr => ∃ (k : Nat) (z : Int) (n : List R), k ≤ m.length ∧ i = .int .i64 k ∧ s = .int .i64 z ∧ Hid (lostI ((pl l).take k) r = z) ∧ 0 ≤ z ∧ z ≤ 30 * k ∧ Hid (n.length = m.length) ∧ Hid (pl n = half7 (pl l) r k) ∧ Hid (Own wr w.heap.size wr.heap.size A3 c3 n) ∧ Below w.heap.size w wr) (fun _ i _ => m.length - (intOf i).toNat)
  case atStart => exact ⟨0, 0, m, Nat.zero_le _, rfl, rfl, Lib.hid rfl, by omega, by omega, Lib.hid rfl, Lib.hid (by rw [half7_zero]; exact hm), HO3, HB⟩
  case round =>
    clear HO3 HB hm
    obtain ⟨k, z, n, hk, rfl, rfl, HZ, z0, z1, HN, HP, HO, HB⟩ := hrel
    by_cases hlt : k < m.length
    · have hkn : k < n.length := by rw [HN.out]; exact hlt
      have hkl : k < (pl l).length := by rw [pl_len]; have := HML.out; omega
      obtain ⟨g, rfl⟩ := HO.out.ptr (by omega)
      obtain ⟨y, hy⟩ : ∃ y, n[k] = y := ⟨_, rfl⟩
      have hyp : (pl l)[k] = y.pure := by
        obtain ⟨h1, h2⟩ := m_at HP.out hkn hy
        rw [← half7_at (pl l) r k hkl h1]; exact h2
      have hok : okLs y.f2.ls = true := by have := (okH_true (good_get HG.out k hkl)).2.2.2.2; rw [hyp] at this; exact this
      obtain ⟨c0, c1, c2, c4⟩ := HO.out.at hkn hy
      have HT := Lib.hid ((lost_take (r := r) hkl hyp).trans (by rw [HZ.out]))
      have HROW := Lib.hid (show RowOwn wr w.heap.size y.f2 by rw [← hy]; exact HO.out.row hkn)
      have hyn : y.f2.ls.length ≤ 12 := okLs_len hok
      have HOK := Lib.hid hok
      have HY := Lib.hid hy; have HKN := Lib.hid hkn; have HKL := Lib.hid hkl; have HYP := Lib.hid hyp; have HLT := Lib.hid hlt
      have hgl : g < wr.heap.size := own_lt HO.out.out
      clear hok hy hyp
      have hba := al (Below.refl wr.heap.size wr) (o := .cells #[.int .i64 y.f0, .int .i64 y.f1, .slice y.f2.A y.f2.ls.length y.f2.cap, .bool y.f3] 91)
      have B0 := Box.new (Below.refl _ wr) [.int .i64 y.f0, .int .i64 y.f1, .slice y.f2.A y.f2.ls.length y.f2.cap, .bool y.f3] 91 (g := wr.heap.size) rfl
      have HOPV := Lib.hid (show openH y.pure = (!y.f3 && !((y.f2.ls.length : Int) == 0)) by
        unfold openH
        congr 1
        have e : ((y.f2.ls.length : Int) == 0) = decide (y.f2.ls.length = 0) := by rw [Bool.eq_iff_iff]; simp
        show decide (0 < y.f2.ls.length) = _
        rw [e, ← decide_not]
        exact decide_eq_decide.2 (by omega))
      cases hop : openH y.pure
      · have HZ2 := Lib.hid (show lostI ((pl l).take (k + 1)) r = z by rw [HT.out, washed_no r hop]; omega)
        have HP2 := Lib.hid (show pl n = half7 (pl l) r (k + 1) by rw [half7_same (pl l) r k HKL.out (by rw [HYP.out]; exact hop)]; exact HP.out)
        have HBA := Lib.hid hba
        have HO2 := Lib.hid ((HO.out.keep hba).mono hba.size)
        clear hba B0
        cases h3 : y.f3
        · have hlen : ((y.f2.ls.length : Int) == 0) = true := by
            have := HOPV.out; rw [hop, h3] at this; simpa using this.symm
          rw [h3] at c4
          simp only [h3] at HBA HO2
          clear hop h3
          go_wp2
          go_roundw
          case rel => exact ⟨k + 1, z, n, HLT.out, by go_num, rfl, HZ2, z0, by omega, HN, HP2, HO2, be HB HBA.out⟩
          case measure => have := HLT.out; simp [intOf]; omega
        · rw [h3] at c4
          simp only [h3] at HBA HO2
          clear hop h3
          go_wp2
          go_roundw
          case rel => exact ⟨k + 1, z, n, HLT.out, by go_num, rfl, HZ2, z0, by omega, HN, HP2, HO2, be HB HBA.out⟩
          case measure => have := HLT.out; simp [intOf]; omega
      · obtain ⟨t1, t2, t3⟩ := open_top hop HOK.out
        have h3 : y.f3 = false := by have := HOPV.out; rw [hop] at this; cases h : y.f3; rfl; rw [h] at this; simp at this
        have hlen : ((y.f2.ls.length : Int) == 0) = false := by have := HOPV.out; rw [hop, h3] at this; simpa using this
        have HOP := Lib.hid hop; clear hop
        have hdiv : r.tdiv 10 = r / 10 := Int.tdiv_eq_ediv_of_nonneg hrb.1
        obtain ⟨tp, htp⟩ : ∃ tp, topE 1000 y.f2.ls = tp := ⟨_, rfl⟩
        have t4 : topE 501 y.f2.ls = tp := by rw [← htp]; exact t3.symm
        have t1' : 1 ≤ tp := by rw [← t4]; exact t1
        have t2' : tp ≤ 500 := by rw [← t4]; exact t2
        have HTP := Lib.hid htp
        have HW := Lib.hid (show washed r y.pure = min (r / 10) tp by rw [washed_yes r HOP.out, ← t4]; rfl)
        clear htp t1 t2 t3 t4
        have hd0 : 0 ≤ r / 10 := by omega
        have hd1 : r / 10 ≤ 30 := by omega
        have HRB := Lib.hid hrb
        have HROW1 := Lib.hid (HROW.out.keep hba)
        obtain ⟨tv, htv⟩ : ∃ tv, least (r / 10) tp = tv := ⟨_, rfl⟩
        have hmin : min (r / 10) tp = tv := by rw [← htv]; unfold least; split <;> omega
        have ht0 : 0 ≤ tv ∧ tv ≤ 30 := by rw [← hmin]; omega
        have HTV := Lib.hid htv; clear htv
        have HW2 := Lib.hid (HW.out.trans hmin); clear hmin
        have yA : IntKind.i64.wrap (z + tv) = z + tv := IntWalk.i64_in _ (by omega)
        have y0 := B0.cells 0 _ rfl; have y1 := B0.cells 1 _ rfl; have y2 := B0.cells 2 _ rfl; have y3 := B0.cells 3 _ rfl
        have B1 := B0; clear B0
        rw [h3] at c4
        have H3 := Lib.hid h3
        go_wp2_with fail
        rw [← H3.out]
        refine (top_spec y _ HROW1.out.rd (by omega)).mono ?_
        rintro e w4 ⟨rfl, hB4⟩
        rw [HTP.out]
        have B4 := B1.more hB4
        have hb4 := be hba hB4
        have HROW4 := Lib.hid (HROW1.out.keep hB4)
        have y0' := B4.cells 0 _ rfl; have y1' := B4.cells 1 _ rfl; have y2' := B4.cells 2 _ rfl; have y3' := B4.cells 3 _ rfl
        have HB4 := Lib.hid hb4
        clear y0 y1 y2 y3 B1 hba hB4 hb4 c0 c1 c2 c4
        go_wp2_with (go_at_call 86; (with_reducible refine (least_any _ _ _).mono ?_); rintro e' w' ⟨rfl, rfl⟩; rw [HTV.out])
        refine (HeapU.take_spec y.f2.A y.f2.cap y.f2.ls tv _ HROW4.out.rd (okLs_mem HOK.out) (by omega) (by omega) (by omega)).mono ?_
        rintro e w5 ⟨rw5, hrl, rfl, hro, hB5⟩
        have B5 := B4.more hB5
        have HB5 := Lib.hid (be HB4.out hB5)
        have hs4 : wr.heap.size + 1 ≤ w4.heap.size := B4.there
        have hs1 : w4.heap.size ≤ w5.heap.size := hB5.size
        have HRL := Lib.hid hrl
        have z0' := B5.cells 0 _ rfl; have z1' := B5.cells 1 _ rfl; have z2' := B5.cells 2 _ rfl; have z3' := B5.cells 3 _ rfl; have z4' := B5.free 2 (by simp)
        have HRO := Lib.hid hro
        clear y0' y1' y2' y3' B4 hB5 hrl hro
        go_upto_region 11 with fail
        have B6 := B5.set 2 (.slice rw5.A rw5.ls.length rw5.cap)
        have hro6 := RowOwn.congr (w' := w5.setCell ⟨wr.heap.size, 2, none⟩ (.slice rw5.A rw5.ls.length rw5.cap)) HRO.out (fun j hj => by
          have h1 := (HRO.out.lt j hj).1
          exact Below.heap_setCell w5 ⟨wr.heap.size, 2, none⟩ _ j (by simp; omega))
        have hb6 : Below wr.heap.size wr (w5.setCell ⟨wr.heap.size, 2, none⟩ (.slice rw5.A rw5.ls.length rw5.cap)) := HB5.out.setCell (p := ⟨wr.heap.size, 2, none⟩) (Nat.le_refl _) _
        generalize w5.setCell ⟨wr.heap.size, 2, none⟩ (.slice rw5.A rw5.ls.length rw5.cap) = W6 at B6 hro6 hb6 ⊢
        simp only [List.set_cons_succ, List.set_cons_zero] at B6
        clear z0' z1' z2' z3' z4' B5 HRO
        have HP9 := Lib.hid (putH_same rw5 HO.out HKN.out HY.out (hro6.base (show w.heap.size ≤ _ by have := HB.size; omega)) rfl hb6.size (fun j hj => by
          have h1 := (hro6.lt j hj).1
          exact ⟨by omega, .inr (by omega)⟩) (fun j hj _ => hb6.block j hj))
        have y0 := B6.cells 0 _ rfl; have y1 := B6.cells 1 _ rfl; have y2 := B6.cells 2 _ rfl; have y3 := B6.cells 3 _ rfl
        obtain ⟨d0, d1, d2, d3⟩ := own_at HP9.out.1 HKN.out HY.out
        have f0 : W6.frozen? ⟨g, k * 4, none⟩ = false := HP9.out.1.frozenAt _
        have f1 : W6.frozen? ⟨g, k * 4 + 1, none⟩ = false := HP9.out.1.frozenAt _
        have f2 : W6.frozen? ⟨g, k * 4 + 2, none⟩ = false := HP9.out.1.frozenAt _
        have f3 : W6.frozen? ⟨g, k * 4 + 3, none⟩ = false := HP9.out.1.frozenAt _
        have HB6 := Lib.hid hb6
        clear hb6 hro6 B6 h3
        go_wp2
        go_roundw
        case rel =>
          have hq : w.heap.size ≤ g := own_ge HO.out.out g rfl
          refine ⟨k + 1, z + tv, n.set k ⟨y.f0, y.f1, rw5, y.f3⟩, HLT.out, by go_num, rfl, Lib.hid (by rw [HT.out, HW2.out]), by omega, by push_cast; omega, Lib.hid (by rw [List.length_set]; exact HN.out), Lib.hid ?_, Lib.hid (by simp only [size_set']; exact HP9.out.2), ((((be HB HB6.out).setCell hq _).setCell hq _).setCell hq _).setCell hq _⟩
          rw [pl_setp HP.out, ← half7_set (pl l) r k HKL.out, HYP.out]
          congr 1
          unfold rainOne
          rw [if_pos HOP.out, HW2.out]
          show (⟨y.f0, y.f1, rw5.ls, y.f3⟩ : H) = withLs y.pure (takeL y.f2.ls tv)
          rw [HRL.out]; rfl
        case measure => have := HLT.out; simp [intOf]; omega
    · have hkk : k = m.length := by omega
      have HF := Lib.hid (show rainH (pl l) r = pl n by rw [(rain_yes HV.out).1, HP.out, half7_full (pl l) r (by rw [pl_len]; have := HML.out; omega)])
      have HL := Lib.hid (show rainI (pl l) r = z by rw [(rain_yes HV.out).2]; have := HZ.out; rwa [List.take_of_length_le (by rw [pl_len]; have := HML.out; omega)] at this)
      go_wp2
      go_ret3
      exact x_mk (m := n) HF.out HL.out HV.out (by rw [HN.out]; rfl) HO.out HB
end Go.Proofs.Ytpbmncecejchjaa.HeapN
