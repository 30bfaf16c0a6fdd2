/- FnPonds, walked. -/
import Derived.Test.YtfngglnjdeajfaaMPond
import Derived.Test.YtfngglnjdeajfaaDPond4
import Derived.Test.YtfngglnjdeajfaaPond9
import Derived.Test.YtfngglnjdeajfaaLaws3
import Derived.Test.YtfngglnjdeajfaaCut
namespace Go.Proofs.Ytfngglnjdeajfaa.PondLaw
open Go.RowKit Go.Proofs.Ytfngglnjdeajfaa.Mem Go.Proofs.Ytfngglnjdeajfaa.Base Go.Proofs.Ytfngglnjdeajfaa.Draw Go.Proofs.Ytfngglnjdeajfaa.SPond Go.Proofs.Ytfngglnjdeajfaa.Regn Go.Proofs.Ytfngglnjdeajfaa.Boxes Go.Proofs.Ytfngglnjdeajfaa.Keep Go.Proofs.Ytfngglnjdeajfaa.Pond Go.Proofs.Ytfngglnjdeajfaa.Pond2 Go.Proofs.Ytfngglnjdeajfaa.Pond3 Go.Proofs.Ytfngglnjdeajfaa.Pond4 Go.Proofs.Ytfngglnjdeajfaa.Pond6 Go.Proofs.Ytfngglnjdeajfaa.Pond7 Go.Proofs.Ytfngglnjdeajfaa.Pond8 Go.Proofs.Ytfngglnjdeajfaa.Pond9 Go.Proofs.Ytfngglnjdeajfaa.IPond2 Go.Proofs.Ytfngglnjdeajfaa.Laws3 Go.Proofs.Ytfngglnjdeajfaa.SInt Go.Proofs.Ytfngglnjdeajfaa.MPond Go.Proofs.Ytfngglnjdeajfaa.DPond2 Go.Proofs.Ytfngglnjdeajfaa.DPond3 Go.Proofs.Ytfngglnjdeajfaa.DPond4
set_option linter.unusedVariables false
set_option maxRecDepth 100000
def bigB (n : Nat) : Bool := decide (65536 < n)
theorem rbig_any (A : Option Addr) (cap n : Nat) (w : World) (hn : n ≤ maxLen) : Calls Try.prog 16 #[.slice A n cap] w (BPost (bigB n) w) := by
  unfold maxLen at hn
  by_cases h : 65536 < n
  · have hb := Lib.hid (show bigB n = true from decide_eq_true h)
    have h' : decide ((65536 : Int) < n) = true := decide_eq_true (by omega)
    go_enter Try.func16, Try.ntmps16
    go_wp2
    go_ret
    exact bpost (by rw [hb.out])
  · have hb := Lib.hid (show bigB n = false from decide_eq_false h)
    have h' : decide ((65536 : Int) < n) = false := decide_eq_false (by omega)
    go_enter Try.func16, Try.ntmps16
    go_wp2
    go_ret
    exact bpost (by rw [hb.out])
def hasB (l : List Int) (x : Int) : Bool := l.any (fun y => y == x)
set_option maxHeartbeats 400000 in
theorem rhas_any (A : Option Addr) (cap : Nat) (l : List Int) (x : Int) (w : World) (hr : Rd w w.heap.size A (iv l)) (hn : l.length ≤ maxLen) :
    Calls Try.prog 24 #[.slice A l.length cap, .int .i64 x] w (RPost (.bool (hasB l x)) w) := by
  unfold maxLen at hn
  have HR := Lib.hid hr; clear hr
  go_enter Try.func24, Try.ntmps24
  go_wp2
  go_loopw [5] (fun i wr => ∃ k : Nat, k ≤ l.length ∧ i = .int .i64 k ∧ Hid ((l.take k).any (fun y => y == x) = false) ∧ Below w.heap.size w wr) (fun i _ => l.length - (intOf i).toNat)
  case atStart => exact ⟨0, Nat.zero_le _, rfl, Lib.hid (by simp), Below.refl _ _⟩
  case round =>
    obtain ⟨k, hk, rfl, HP, HB⟩ := hrel
    by_cases hlt : k < l.length
    · obtain ⟨b, o, rfl, hb, hc⟩ := HR.out.at (k := k) (by rw [iv_len]; exact hlt)
      obtain ⟨y, hy⟩ : ∃ y, l[k] = y := ⟨_, rfl⟩
      have hcell : wr.cell? ⟨b, o + k, none⟩ = some (.int .i64 y) := ((bcell HB).1 _ _ hb).trans (by rw [← hy]; exact hc k _ (iv_get l k hlt))
      clear hc
      have hne : y ≠ x → (l.take (k + 1)).any (fun y => y == x) = false := fun he => by
        have e : (l[k] == x) = false := beq_eq_false_iff_ne.2 (fun e => he (hy.symm.trans e))
        rw [List.take_succ_eq_append_getElem hlt, List.any_append, HP.out]
        simp only [List.any_cons, List.any_nil, e]; rfl
      have HL := Lib.hid hlt
      have HNE := Lib.hid hne; clear hne
      by_cases he : y = x
      · have hq : (y == x) = true := by simp [he]
        have HT := Lib.hid (show hasB l x = true from List.any_eq_true.2 ⟨l[k], List.getElem_mem hlt, beq_iff_eq.2 (hy.trans he)⟩); clear hy he
        go_wp2
        go_ret
        exact rpost (by rw [HT.out] <;> rfl) HB
      · have hq : (y == x) = false := by simp [he]
        have HT := Lib.hid (HNE.out he); clear hy he
        go_wp2
        go_roundw
        case rel => exact ⟨k + 1, HL.out, by go_num, HT, HB⟩
        case measure => have := HL.out; simp [intOf]; omega
    · have HT := Lib.hid (show hasB l x = false by have := HP.out; rwa [List.take_of_length_le (by omega)] at this)
      go_wp2
      go_ret
      exact rpost (by rw [HT.out] <;> rfl) HB
set_option maxHeartbeats 400000 in
theorem rints_any (A A' : Option Addr) (cap cap' : Nat) (l m : List Int) (w : World) (hr : Rd w w.heap.size A (iv l)) (hr' : Rd w w.heap.size A' (iv m)) (hn : l.length ≤ maxLen) (hn' : m.length ≤ maxLen) :
    Calls Try.prog 22 #[.slice A l.length cap, .slice A' m.length cap'] w (SInt.EqPost l m w) := by
  unfold maxLen at hn hn'
  by_cases hl : l.length = m.length
  · have hne : ((l.length : Int) != m.length) = false := by rw [bne_eq_false_iff_eq]; omega
    have HR := Lib.hid hr; clear hr
    have HR' := Lib.hid hr'; clear hr'
    have HL := Lib.hid hl; clear hl
    go_enter Try.func22, Try.ntmps22
    go_wp2
    go_loopw [5] (fun i wr => ∃ k : Nat, k ≤ l.length ∧ i = .int .i64 k ∧ l.take k = m.take k ∧ ∃ n, wr = w.drewN n) (fun i _ => l.length - (intOf i).toNat)
    case atStart => exact ⟨0, Nat.zero_le _, rfl, by simp, 0, rfl⟩
    case round =>
      obtain ⟨k, hk, rfl, hpre, n, rfl⟩ := hrel
      have HP := Lib.hid hpre; clear hpre
      by_cases hlt : k < l.length
      · obtain ⟨b, o, rfl, hb, hc⟩ := HR.out.at (k := k) (by rw [iv_len]; exact hlt)
        obtain ⟨b', o', rfl, hb', hc'⟩ := HR'.out.at (k := k) (by rw [iv_len]; have := HL.out; omega)
        have hlt' : k < m.length := by have := HL.out; omega
        obtain ⟨x, hx⟩ : ∃ x, l[k] = x := ⟨_, rfl⟩
        obtain ⟨y, hy⟩ : ∃ y, m[k] = y := ⟨_, rfl⟩
        have hcell : w.cell? ⟨b, o + k, none⟩ = some (.int .i64 x) := by rw [← hx]; exact hc k _ (iv_get l k hlt)
        have hcell' : w.cell? ⟨b', o' + k, none⟩ = some (.int .i64 y) := by rw [← hy]; exact hc' k _ (iv_get m k hlt')
        clear hc hc'
        by_cases he : x = y
        · have hq : (x != y) = false := by simp [he]
          have HT := Lib.hid (take_eq_succ hlt hlt' HP.out (by rw [hx, hy]; exact he)); clear hx hy he
          have HLT := Lib.hid hlt
          go_wp2
          go_quiet (fail)
          go_wp2
          exact ⟨⟨k + 1, HLT.out, by go_num, HT.out, _, rfl⟩, by have := HLT.out; simp [intOf]; omega⟩
        · have hq : (x != y) = true := by simp [he]
          have HT := Lib.hid (take_ne hlt hlt' (by rw [hx, hy]; exact he)); clear hx hy he
          go_wp2
          go_quiet (fail)
          go_wp2
          go_ret
          exact SInt.eq_no HT.out (Drawn.nn _ _ _)
      · go_wp2
        go_ret
        exact SInt.eq_yes (by have h1 := HP.out; rwa [List.take_of_length_le (by omega), List.take_of_length_le (by have := HL.out; omega)] at h1) (Drawn.n _ _)
  · have hne : ((l.length : Int) != m.length) = true := by rw [bne_iff_ne]; omega
    go_enter Try.func22, Try.ntmps22
    go_wp2
    go_ret
    exact SInt.eq_no (fun e => hl (by rw [e])) (Drawn.refl _)
theorem has_bank {l : List R} (h : good l = true) (x : R) {k : Nat} (hk : k < l.length) : hasB (nb x l) l[k].f0 = decide (0 < bank x l[k]) := by
  unfold hasB nb
  by_cases hb : 0 < bank x l[k]
  · rw [decide_eq_true hb, List.any_eq_true]
    exact ⟨l[k].f0, List.mem_map.2 ⟨l[k], List.mem_filter.2 ⟨List.getElem_mem hk, by simp [hb]⟩, rfl⟩, by simp⟩
  · rw [decide_eq_false hb, List.any_eq_false]
    intro v hv
    obtain ⟨y, hy, rfl⟩ := List.mem_map.1 hv
    obtain ⟨hy1, hy2⟩ := List.mem_filter.1 hy
    obtain ⟨j, hj, rfl⟩ := List.getElem_of_mem hy1
    have hy3 := of_decide_eq_true hy2
    intro e
    have e1 : l[j].f0 = l[k].f0 := by simpa using e
    have hjk : j = k := by
      rcases Nat.lt_trichotomy j k with h1 | h1 | h1
      · have := ids_lt h h1 hk; omega
      · exact h1
      · have := ids_lt h h1 hj; omega
    subst hjk
    exact hb hy3
theorem id_index {l : List R} (h : good l = true) {j k : Nat} (hj : j < l.length) (hk : k < l.length) (e : l[j].f0 = l[k].f0) : j = k := by
  rcases Nat.lt_trichotomy j k with h1 | h1 | h1
  · have := ids_lt h h1 hk; omega
  · exact h1
  · have := ids_lt h h1 hj; omega
theorem find_id {l : List R} (h : good l = true) {k : Nat} (hk : k < l.length) : find l l[k].f0 = k := by
  refine find_at h hk (fun j hj hjk e => ?_) rfl
  have := ids_lt h hjk hk; omega

set_option maxHeartbeats 3200000 in
theorem law (A : Option Addr) (cap : Nat) (zs : List Int) (w : World) (hr : Rd w w.heap.size A (zs.map (Value.int .u8))) (hn : zs.length ≤ maxLen) (hb : ∀ z ∈ zs, 0 ≤ z ∧ z ≤ 255) :
    Calls Try.prog 3 #[.slice A zs.length cap] w (Yes w) := by
  by_cases hbig : 65536 < zs.length
  · have HG := Lib.hid (show bigB zs.length = true from decide_eq_true hbig)
    clear hr hb
    go_enter Try.func3, Try.ntmps3
    go_wp2_with fail
    refine (rbig_any A cap zs.length w hn).mono ?_
    rintro e w' ⟨rfl, rfl⟩
    rw [HG.out]
    go_wp2
    go_ret
    exact ⟨rfl, Below.refl _ _⟩
  have HG := Lib.hid (show bigB zs.length = false from decide_eq_false hbig)
  have HN := Lib.hid hn; clear hn
  have HC := Lib.hid (show Src w A zs from ⟨hr, by omega, hb⟩); clear hr hb
  go_enter Try.func3, Try.ntmps3
  go_wp2_with fail
  refine (rbig_any A cap zs.length w HN.out).mono ?_
  rintro e w' ⟨rfl, rfl⟩
  rw [HG.out]
  clear HG hbig HN
  go_wp2_with fail
  refine (drawOuter A cap zs w HC.out).mono ?_
  rintro e va ⟨L, g, c, id, hl, _, _, rfl, O, HB⟩
  have hcp := own_cap O
  have HML := Lib.hid (show (nbs L id).length ≤ maxLen by
    unfold nbs maxLen
    split
    · have := nb_len (at_ L (find L id)) L; omega
    · simp)
  by_cases h0 : 0 ≤ find L id
  · obtain ⟨i, hi, hil, hia, hg⟩ := find_ok h0
    obtain ⟨x, hx⟩ : ∃ x, L[i] = x := ⟨_, rfl⟩
    have hox := (good_all hg).2 i hil; rw [hx] at hox
    obtain ⟨S, hS⟩ : ∃ S, S = 2 * (x.f3 + x.f4) := ⟨_, rfl⟩
    obtain ⟨t, ht⟩ : ∃ t, t = S - banks x L := ⟨_, rfl⟩
    have hle := banks_le hg hox
    have ht0 : 0 ≤ t := by omega
    have ht1 : decide (t < 0) = false := decide_eq_false (by omega)
    have HO := Lib.hid (out_yes (s := t) hi hil hx (by rw [ht, hS]))
    have HQ := Lib.hid (decide_eq_true h0)
    have HM := Lib.hid (nbs_yes hi hil hx)
    have HX := Lib.hid hx; have HI := Lib.hid hi; have HIA := Lib.hid hia; have HGD := Lib.hid hg; have HOX := Lib.hid hox; have HT := Lib.hid ht; have HS := Lib.hid hS
    have hSb : 4 ≤ S ∧ S ≤ 80 := by have := okP_true hox; omega
    have hL10 := (good_all hg).1
    have hts : t ≤ S := by have := banks_nonneg hg hox; omega
    clear hx hi hia hg hox ht hS h0 hle
    go_wp2_with fail
    refine (outer_impl (some ⟨g, 0, none⟩) c L id _ (Rd.of_own O) hcp (by omega)).mono ?_
    rintro e v1 ⟨rfl, hv1⟩
    replace HB := be HB hv1
    replace O := own_keep O hv1
    have zhv1 := hv1.size
    rw [HO.out]
    go_wp2_with fail
    refine (outer_spec (some ⟨g, 0, none⟩) c L id _ (Rd.of_own O) (by omega)).mono ?_
    rintro e v2 ⟨rfl, hv2⟩
    replace HB := be HB hv2
    replace O := own_keep O hv2
    have zhv2 := hv2.size
    rw [HO.out]
    have hz1 := HB.size
    go_wp2_with fail
    refine (nb_impl (some ⟨g, 0, none⟩) c L id _ (Rd.of_own O) hcp (by omega)).mono ?_
    rintro e v3 ⟨A1, c1, rfl, O1, hv3⟩
    replace HB := be HB hv3
    replace O := own_keep O hv3
    have zhv3 := hv3.size
    rw [HQ.out]
    go_wp2_with fail
    refine (nb_spec (some ⟨g, 0, none⟩) c L id _ (Rd.of_own O) (by omega)).mono ?_
    rintro e v4 ⟨A2, c2, rfl, O2, hv4⟩
    replace HB := be HB hv4
    replace O := own_keep O hv4
    replace O1 := own_keep O1 hv4
    have zhv4 := hv4.size
    rw [HQ.out]
    go_wp2_with fail
    refine (rints_any A1 A2 c1 c2 _ _ _ (Rd.of_own O1) (Rd.of_own O2) HML.out HML.out).mono ?_
    rintro e v5 ⟨rfl, hv5⟩
    replace HB := be HB hv5
    replace O := own_keep O hv5
    replace O1 := own_keep O1 hv5
    have zhv5 := hv5.size
    rw [decide_eq_true rfl]
    clear O2
    have O1w := own_base O1 (base' := w.heap.size) hz1
    clear O1
    go_wp2
    go_loopw [5, 13, 14] (fun oo rr ii wr => ∃ (k : Nat) (s r : Int), k ≤ L.length ∧ ii = .int .i64 k ∧ oo = .int .i64 s ∧ rr = .int .i64 r ∧ Hid (s = t + banks x (L.take k)) ∧ Hid (r = if i < k then S else 0) ∧ t ≤ s ∧ s ≤ t + 20 * k ∧ wr.ownsRow w.heap.size 34 6 (.slice (some ⟨g, 0, none⟩) L.length c) L.length (flat L) ∧ wr.ownsRow w.heap.size 3 1 (.slice A1 (nbs L id).length c1) (nbs L id).length (iv (nbs L id)) ∧ Below w.heap.size w wr) (fun _ _ ii _ => L.length - (intOf ii).toNat)
    case atStart => exact ⟨0, t, 0, Nat.zero_le _, rfl, rfl, rfl, Lib.hid (by simp [banks]), Lib.hid (by simp), by omega, by omega, O, O1w, HB⟩
    case round =>
      clear O O1w HB
      obtain ⟨k, s, r, hk, rfl, rfl, rfl, HS2, HR2, s0, s1, O, O1, HB⟩ := hrel
      by_cases hlt : k < L.length
      · obtain ⟨y, hy⟩ : ∃ y, L[k] = y := ⟨_, rfl⟩
        have HY := Lib.hid hy
        have HL := Lib.hid hlt
        have HOY := Lib.hid (show okP y = true by rw [← hy]; exact (good_all HGD.out).2 k hlt)
        obtain ⟨l0, l1, l2, l3, l4, l5⟩ := Cut.own6 O hlt hy
        have HN := Lib.hid (show banks x (L.take (k + 1)) = banks x (L.take k) + bank x y by rw [banks_snoc x L k hlt, hy])
        by_cases e : y.f0 = id
        · obtain rfl : k = i := id_index HGD.out hlt hil (by rw [hy, e]; exact HIA.out.symm)
          obtain rfl : x = y := HX.out.symm.trans hy
          have hb0 := Lib.hid (bank_self HOX.out)
          have hp := okP_true HOX.out
          have y1 : IntKind.i64.wrap (x.f3 + x.f4) = x.f3 + x.f4 := IntWalk.i64_in _ (by omega)
          have y2 : IntKind.i64.wrap (2 * (x.f3 + x.f4)) = 2 * (x.f3 + x.f4) := IntWalk.i64_in _ (by omega)
          clear hp hy
          have E := Lib.hid e; 
          have e1 : (x.f0 == id) = true := by simp [e]
          clear e
          have HN2 := Lib.hid (show s = t + banks x (L.take (k + 1)) by rw [HN.out, hb0.out, HS2.out]; omega)
          go_wp2
          go_quiet (fail)
          go_wp2
          go_roundw
          case rel => exact ⟨k + 1, s, _, HL.out, by go_num, rfl, rfl, HN2, Lib.hid (by rw [if_pos (by omega)]; exact HS.out.symm), s0, by omega, own_keep O (Below.drewN' (Below.refl _ wr) _), own_keep O1 (Below.drewN' (Below.refl _ wr) _), Below.drewN' HB _⟩
          case measure => have := HL.out; simp [intOf]; omega
        · have hfy : find L y.f0 = k := by rw [← hy]; exact find_id HGD.out hlt
          have hB1 : bankV L id y.f0 = .tuple #[.int .i64 (bank x y), .bool true] := bankV_yes ⟨by rw [HI.out]; omega, by rw [hfy]; omega, fun h => e h.symm⟩ HI.out hfy hil hlt HX.out hy
          have hB2 : bankV L y.f0 id = .tuple #[.int .i64 (bank x y), .bool true] := by rw [bank_comm x y]; exact bankV_yes ⟨by rw [hfy]; omega, by rw [HI.out]; omega, e⟩ hfy HI.out hlt hil hy HX.out
          have hH : hasB (nbs L id) y.f0 = decide (0 < bank x y) := by rw [HM.out, ← hy]; exact has_bank HGD.out x hlt
          have hbd := IPond.bank_bd HOX.out HOY.out
          have y1 : IntKind.i64.wrap (s + bank x y) = s + bank x y := IntWalk.i64_in _ (by omega)
          have HB1 := Lib.hid hB1; have HB2 := Lib.hid hB2; have HH := Lib.hid hH
          have e1 : (y.f0 == id) = false := by simp [e]
          clear hB1 hB2 hH hfy hy
          have E := Lib.hid e; clear e
          go_wp2_with fail
          refine (bankof_impl (some ⟨g, 0, none⟩) c L id y.f0 _ (Rd.of_own O) hcp (by omega)).mono ?_
          rintro e v1 ⟨rfl, hv1⟩
          replace HB := be HB hv1
          replace O := own_keep O hv1
          replace O1 := own_keep O1 hv1
          have zhv1 := hv1.size
          rw [HB1.out]
          clear l0 l1 l2 l3 l4 l5
          obtain ⟨l0, l1, l2, l3, l4, l5⟩ := Cut.own6 O HL.out HY.out
          go_wp2_with fail
          refine (bankof_impl (some ⟨g, 0, none⟩) c L y.f0 id _ (Rd.of_own O) hcp (by omega)).mono ?_
          rintro e v2 ⟨rfl, hv2⟩
          replace HB := be HB hv2
          replace O := own_keep O hv2
          replace O1 := own_keep O1 hv2
          have zhv2 := hv2.size
          rw [HB2.out]
          clear l0 l1 l2 l3 l4 l5
          obtain ⟨l0, l1, l2, l3, l4, l5⟩ := Cut.own6 O HL.out HY.out
          have HN2 := Lib.hid (show s + bank x y = t + banks x (L.take (k + 1)) by rw [HN.out, HS2.out]; omega)
          have HR3 := Lib.hid (show r = if i < k + 1 then S else 0 by
            have h1 := HR2.out
            have h2 : i ≠ k := fun h => by subst h; exact E.out (by rw [← HY.out]; exact HIA.out)
            rw [h1]; split <;> split <;> first | rfl | omega)
          go_wp2_with fail
          refine (rhas_any A1 c1 (nbs L id) y.f0 _ (Rd.of_own O1) HML.out).mono ?_
          rintro e v3 ⟨rfl, hv3⟩
          replace HB := be HB hv3
          replace O := own_keep O hv3
          replace O1 := own_keep O1 hv3
          have zhv3 := hv3.size
          rw [HH.out]
          have HBD := Lib.hid hbd
          clear l0 l1 l2 l3 l4 l5 hbd
          generalize hq : decide (0 < bank x y) = q
          have hq' : (bank x y > 0) = (q = true) := by rw [← hq]; simp
          go_wp2
          go_roundw
          case rel => exact ⟨k + 1, s + bank x y, r, HL.out, by go_num, rfl, rfl, HN2, HR3, by have := HBD.out; omega, by have := HBD.out; omega, O, O1, HB⟩
          case measure => have := HL.out; simp [intOf]; omega
      · obtain rfl : k = L.length := by omega
        have hs : s = S := by have h1 := HS2.out; have h2 := HT.out; rw [List.take_of_length_le (Nat.le_refl _)] at h1; omega
        have hr : r = S := by have h1 := HR2.out; rw [if_pos hil] at h1; exact h1
        subst hs
        subst hr
        clear HS2 HR2
        clear O1
        clear O
        go_wp2_with fail
        refine (drawBankOf A cap zs _ (HC.out.below HB)).mono ?_
        rintro e v4 ⟨L2, g2, d2, a2, b2, hl2, _, _, _, rfl, P2, hv4⟩
        replace HB := be HB hv4
        have zhv4 := hv4.size
        obtain ⟨x2, q2, hv2⟩ : ∃ x q, bankV L2 a2 b2 = .tuple #[.int .i64 x, .bool q] := by unfold bankV; split <;> exact ⟨_, _, rfl⟩
        have HV2 := Lib.hid hv2; clear hv2
        go_wp2_with fail
        refine (bankof_impl (some ⟨g2, 0, none⟩) d2 L2 a2 b2 _ (Rd.of_own P2) (own_cap P2) (by omega)).mono ?_
        rintro e v5 ⟨rfl, hv5⟩
        replace HB := be HB hv5
        replace P2 := own_keep P2 hv5
        have zhv5 := hv5.size
        rw [HV2.out]
        go_wp2_with fail
        refine (bankof_spec (some ⟨g2, 0, none⟩) d2 L2 a2 b2 _ (Rd.of_own P2) (by omega)).mono ?_
        rintro e v6 ⟨rfl, hv6⟩
        replace HB := be HB hv6
        replace P2 := own_keep P2 hv6
        have zhv6 := hv6.size
        rw [HV2.out]
        clear P2
        go_wp2_with fail
        refine (drawHolds A cap zs _ (HC.out.below HB)).mono ?_
        rintro e v7 ⟨L3, g3, d3, a3, hl3, _, _, rfl, P3, hv7⟩
        replace HB := be HB hv7
        have zhv7 := hv7.size
        obtain ⟨x3, q3, hv3⟩ : ∃ x q, holdsV L3 a3 = .tuple #[.int .i64 x, .bool q] := by unfold holdsV; split <;> exact ⟨_, _, rfl⟩
        have HV3 := Lib.hid hv3; clear hv3
        go_wp2_with fail
        refine (holds_impl (some ⟨g3, 0, none⟩) d3 L3 a3 _ (Rd.of_own P3) (own_cap P3) (by omega)).mono ?_
        rintro e v8 ⟨rfl, hv8⟩
        replace HB := be HB hv8
        replace P3 := own_keep P3 hv8
        have zhv8 := hv8.size
        rw [HV3.out]
        go_wp2_with fail
        refine (holds_spec (some ⟨g3, 0, none⟩) d3 L3 a3 _ (Rd.of_own P3) (by omega)).mono ?_
        rintro e v9 ⟨rfl, hv9⟩
        replace HB := be HB hv9
        replace P3 := own_keep P3 hv9
        have zhv9 := hv9.size
        rw [HV3.out]
        clear P3
        go_wp2_with fail
        refine (drawPondAt A cap zs _ (HC.out.below HB)).mono ?_
        rintro e v10 ⟨L4, g4, d4, a4, b4, hl4, _, _, _, rfl, P4, hv10⟩
        replace HB := be HB hv10
        have zhv10 := hv10.size
        obtain ⟨x4, q4, hv4⟩ : ∃ x q, Pond5.atV L4 a4 b4 = .tuple #[.int .i64 x, .bool q] := by unfold Pond5.atV; split <;> exact ⟨_, _, rfl⟩
        have HV4 := Lib.hid hv4; clear hv4
        go_wp2_with fail
        refine (Pond5.at_impl (some ⟨g4, 0, none⟩) d4 L4 a4 b4 _ (Rd.of_own P4) (own_cap P4) (by omega)).mono ?_
        rintro e v11 ⟨rfl, hv11⟩
        replace HB := be HB hv11
        replace P4 := own_keep P4 hv11
        have zhv11 := hv11.size
        rw [HV4.out]
        go_wp2_with fail
        refine (Pond5.at_spec (some ⟨g4, 0, none⟩) d4 L4 a4 b4 _ (Rd.of_own P4) (by omega)).mono ?_
        rintro e v12 ⟨rfl, hv12⟩
        replace HB := be HB hv12
        replace P4 := own_keep P4 hv12
        have zhv12 := hv12.size
        rw [HV4.out]
        clear P4
        go_wp2_with fail
        refine (drawIsPond A cap zs _ (HC.out.below HB)).mono ?_
        rintro e v13 ⟨x5, _, rfl, hv13⟩
        replace HB := be HB hv13
        have zhv13 := hv13.size
        go_wp2_with fail
        have D := Box.new HB [.int .i64 x5.f0, .int .i64 x5.f1, .int .i64 x5.f2, .int .i64 x5.f3, .int .i64 x5.f4, .int .i64 x5.f5] 34 (g := v13.heap.size) rfl
        replace HB := be HB (al (Below.refl _ _) (o := (.cells #[.int .i64 x5.f0, .int .i64 x5.f1, .int .i64 x5.f2, .int .i64 x5.f3, .int .i64 x5.f4, .int .i64 x5.f5] 34)))
        generalize (v13.alloc (.cells #[.int .i64 x5.f0, .int .i64 x5.f1, .int .i64 x5.f2, .int .i64 x5.f3, .int .i64 x5.f4, .int .i64 x5.f5] 34)) = W14 at D HB ⊢
        have D_0 := D.cells 0 _ rfl
        have D_1 := D.cells 1 _ rfl
        have D_2 := D.cells 2 _ rfl
        have D_3 := D.cells 3 _ rfl
        have D_4 := D.cells 4 _ rfl
        have D_5 := D.cells 5 _ rfl
        have D_f0 := D.free 0 (by simp)
        have D_f1 := D.free 1 (by simp)
        have D_f2 := D.free 2 (by simp)
        have D_f3 := D.free 3 (by simp)
        have D_f4 := D.free 4 (by simp)
        have D_f5 := D.free 5 (by simp)
        have D_t := D.there
        refine wp_region_last 25 (fun w' => Box (v13.heap.size) [.int .i64 x5.f0, .int .i64 x5.f1, .int .i64 x5.f2, .int .i64 x5.f3, .int .i64 x5.f4, .int .i64 x5.f5] w w' ∧ Below w.heap.size w w') (by kernel_rfl) (by kernel_rfl) (by kernel_rfl) ⟨D.drew, be HB (Below.refl _ _).drew⟩ ?_
        clear D_0 D_1 D_2 D_3 D_4 D_5 D_f0 D_f1 D_f2 D_f3 D_f4 D_f5 D_t
        simp only [List.take_succ_cons, List.take_zero]
        iterate 25 (
          apply SeqH.one
          · intro uw K hS hK
            obtain ⟨qD, qHB⟩ := hS
            have qD_0 := qD.cells 0 _ rfl
            have qD_1 := qD.cells 1 _ rfl
            have qD_2 := qD.cells 2 _ rfl
            have qD_3 := qD.cells 3 _ rfl
            have qD_4 := qD.cells 4 _ rfl
            have qD_5 := qD.cells 5 _ rfl
            first
              | (go_simp; exact hK.out _ ⟨qD, qHB⟩)
              | (go_simp; go_at_call 34; (with_reducible refine (IPond.pond_impl x5 _).mono ?_); rintro e uw1 ⟨rfl, hv⟩; go_wp2_with fail; exact hK.out _ ⟨qD.more hv, be qHB hv⟩)
              | (go_simp; go_at_call 35; (with_reducible refine (Pond5.ispond_spec x5 _).mono ?_); rintro e uw1 ⟨rfl, hv⟩; go_wp2_with fail; exact hK.out _ ⟨qD.more hv, be qHB hv⟩)
          try simp only [Act.put, List.setIfInBounds_toArray, List.set_cons_zero, List.set_cons_succ])
        refine SeqH.rest rfl ?_
        intro v15 hS
        clear D HB
        obtain ⟨D, HB⟩ := hS
        simp only [List.drop_succ_cons, List.drop_zero]
        have D_0 := D.cells 0 _ rfl
        have D_1 := D.cells 1 _ rfl
        have D_2 := D.cells 2 _ rfl
        have D_3 := D.cells 3 _ rfl
        have D_4 := D.cells 4 _ rfl
        have D_5 := D.cells 5 _ rfl
        have D_f0 := D.free 0 (by simp)
        have D_f1 := D.free 1 (by simp)
        have D_f2 := D.free 2 (by simp)
        have D_f3 := D.free 3 (by simp)
        have D_f4 := D.free 4 (by simp)
        have D_f5 := D.free 5 (by simp)
        have D_t := D.there
        go_wp2
        go_ret
        exact ⟨by simp, D.below⟩
  · have HO := Lib.hid (out_no (l := L) (id := id) (by omega))
    have HQ := Lib.hid (decide_eq_false h0)
    clear h0
    go_wp2_with fail
    refine (outer_impl (some ⟨g, 0, none⟩) c L id _ (Rd.of_own O) hcp (by omega)).mono ?_
    rintro e v16 ⟨rfl, hv16⟩
    replace HB := be HB hv16
    replace O := own_keep O hv16
    have zhv16 := hv16.size
    rw [HO.out]
    go_wp2_with fail
    refine (outer_spec (some ⟨g, 0, none⟩) c L id _ (Rd.of_own O) (by omega)).mono ?_
    rintro e v17 ⟨rfl, hv17⟩
    replace HB := be HB hv17
    replace O := own_keep O hv17
    have zhv17 := hv17.size
    rw [HO.out]
    go_wp2_with fail
    refine (nb_impl (some ⟨g, 0, none⟩) c L id _ (Rd.of_own O) hcp (by omega)).mono ?_
    rintro e v18 ⟨A1, c1, rfl, O1, hv18⟩
    replace HB := be HB hv18
    replace O := own_keep O hv18
    have zhv18 := hv18.size
    rw [HQ.out]
    go_wp2_with fail
    refine (nb_spec (some ⟨g, 0, none⟩) c L id _ (Rd.of_own O) (by omega)).mono ?_
    rintro e v19 ⟨A2, c2, rfl, O2, hv19⟩
    replace HB := be HB hv19
    replace O := own_keep O hv19
    replace O1 := own_keep O1 hv19
    have zhv19 := hv19.size
    rw [HQ.out]
    go_wp2_with fail
    refine (rints_any A1 A2 c1 c2 _ _ _ (Rd.of_own O1) (Rd.of_own O2) HML.out HML.out).mono ?_
    rintro e v20 ⟨rfl, hv20⟩
    replace HB := be HB hv20
    replace O := own_keep O hv20
    replace O1 := own_keep O1 hv20
    have zhv20 := hv20.size
    rw [decide_eq_true rfl]
    clear O2
    clear O1
    clear O
    go_wp2
    go_loopw [5, 13, 14] (fun oo rr ii wr => ii = .int .i64 0 ∧ oo = .int .i64 0 ∧ rr = .int .i64 0 ∧ Below w.heap.size w wr) (fun _ _ _ _ => 0)
    case atStart => exact ⟨rfl, rfl, rfl, HB⟩
    case round =>
      clear HB
      obtain ⟨rfl, rfl, rfl, HB⟩ := hrel
      by_cases hlt : 0 < L.length
      · skip
        go_wp2_with fail
        refine (drawBankOf A cap zs _ (HC.out.below HB)).mono ?_
        rintro e v1 ⟨L2, g2, d2, a2, b2, hl2, _, _, _, rfl, P2, hv1⟩
        replace HB := be HB hv1
        have zhv1 := hv1.size
        obtain ⟨x2, q2, hv2⟩ : ∃ x q, bankV L2 a2 b2 = .tuple #[.int .i64 x, .bool q] := by unfold bankV; split <;> exact ⟨_, _, rfl⟩
        have HV2 := Lib.hid hv2; clear hv2
        go_wp2_with fail
        refine (bankof_impl (some ⟨g2, 0, none⟩) d2 L2 a2 b2 _ (Rd.of_own P2) (own_cap P2) (by omega)).mono ?_
        rintro e v2 ⟨rfl, hv2⟩
        replace HB := be HB hv2
        replace P2 := own_keep P2 hv2
        have zhv2 := hv2.size
        rw [HV2.out]
        go_wp2_with fail
        refine (bankof_spec (some ⟨g2, 0, none⟩) d2 L2 a2 b2 _ (Rd.of_own P2) (by omega)).mono ?_
        rintro e v3 ⟨rfl, hv3⟩
        replace HB := be HB hv3
        replace P2 := own_keep P2 hv3
        have zhv3 := hv3.size
        rw [HV2.out]
        clear P2
        go_wp2_with fail
        refine (drawHolds A cap zs _ (HC.out.below HB)).mono ?_
        rintro e v4 ⟨L3, g3, d3, a3, hl3, _, _, rfl, P3, hv4⟩
        replace HB := be HB hv4
        have zhv4 := hv4.size
        obtain ⟨x3, q3, hv3⟩ : ∃ x q, holdsV L3 a3 = .tuple #[.int .i64 x, .bool q] := by unfold holdsV; split <;> exact ⟨_, _, rfl⟩
        have HV3 := Lib.hid hv3; clear hv3
        go_wp2_with fail
        refine (holds_impl (some ⟨g3, 0, none⟩) d3 L3 a3 _ (Rd.of_own P3) (own_cap P3) (by omega)).mono ?_
        rintro e v5 ⟨rfl, hv5⟩
        replace HB := be HB hv5
        replace P3 := own_keep P3 hv5
        have zhv5 := hv5.size
        rw [HV3.out]
        go_wp2_with fail
        refine (holds_spec (some ⟨g3, 0, none⟩) d3 L3 a3 _ (Rd.of_own P3) (by omega)).mono ?_
        rintro e v6 ⟨rfl, hv6⟩
        replace HB := be HB hv6
        replace P3 := own_keep P3 hv6
        have zhv6 := hv6.size
        rw [HV3.out]
        clear P3
        go_wp2_with fail
        refine (drawPondAt A cap zs _ (HC.out.below HB)).mono ?_
        rintro e v7 ⟨L4, g4, d4, a4, b4, hl4, _, _, _, rfl, P4, hv7⟩
        replace HB := be HB hv7
        have zhv7 := hv7.size
        obtain ⟨x4, q4, hv4⟩ : ∃ x q, Pond5.atV L4 a4 b4 = .tuple #[.int .i64 x, .bool q] := by unfold Pond5.atV; split <;> exact ⟨_, _, rfl⟩
        have HV4 := Lib.hid hv4; clear hv4
        go_wp2_with fail
        refine (Pond5.at_impl (some ⟨g4, 0, none⟩) d4 L4 a4 b4 _ (Rd.of_own P4) (own_cap P4) (by omega)).mono ?_
        rintro e v8 ⟨rfl, hv8⟩
        replace HB := be HB hv8
        replace P4 := own_keep P4 hv8
        have zhv8 := hv8.size
        rw [HV4.out]
        go_wp2_with fail
        refine (Pond5.at_spec (some ⟨g4, 0, none⟩) d4 L4 a4 b4 _ (Rd.of_own P4) (by omega)).mono ?_
        rintro e v9 ⟨rfl, hv9⟩
        replace HB := be HB hv9
        replace P4 := own_keep P4 hv9
        have zhv9 := hv9.size
        rw [HV4.out]
        clear P4
        go_wp2_with fail
        refine (drawIsPond A cap zs _ (HC.out.below HB)).mono ?_
        rintro e v10 ⟨x5, _, rfl, hv10⟩
        replace HB := be HB hv10
        have zhv10 := hv10.size
        go_wp2_with fail
        have D := Box.new HB [.int .i64 x5.f0, .int .i64 x5.f1, .int .i64 x5.f2, .int .i64 x5.f3, .int .i64 x5.f4, .int .i64 x5.f5] 34 (g := v10.heap.size) rfl
        replace HB := be HB (al (Below.refl _ _) (o := (.cells #[.int .i64 x5.f0, .int .i64 x5.f1, .int .i64 x5.f2, .int .i64 x5.f3, .int .i64 x5.f4, .int .i64 x5.f5] 34)))
        generalize (v10.alloc (.cells #[.int .i64 x5.f0, .int .i64 x5.f1, .int .i64 x5.f2, .int .i64 x5.f3, .int .i64 x5.f4, .int .i64 x5.f5] 34)) = W11 at D HB ⊢
        have D_0 := D.cells 0 _ rfl
        have D_1 := D.cells 1 _ rfl
        have D_2 := D.cells 2 _ rfl
        have D_3 := D.cells 3 _ rfl
        have D_4 := D.cells 4 _ rfl
        have D_5 := D.cells 5 _ rfl
        have D_f0 := D.free 0 (by simp)
        have D_f1 := D.free 1 (by simp)
        have D_f2 := D.free 2 (by simp)
        have D_f3 := D.free 3 (by simp)
        have D_f4 := D.free 4 (by simp)
        have D_f5 := D.free 5 (by simp)
        have D_t := D.there
        refine wp_region_last 25 (fun w' => Box (v10.heap.size) [.int .i64 x5.f0, .int .i64 x5.f1, .int .i64 x5.f2, .int .i64 x5.f3, .int .i64 x5.f4, .int .i64 x5.f5] w w' ∧ Below w.heap.size w w') (by kernel_rfl) (by kernel_rfl) (by kernel_rfl) ⟨D.drew, be HB (Below.refl _ _).drew⟩ ?_
        clear D_0 D_1 D_2 D_3 D_4 D_5 D_f0 D_f1 D_f2 D_f3 D_f4 D_f5 D_t
        simp only [List.take_succ_cons, List.take_zero]
        iterate 25 (
          apply SeqH.one
          · intro uw K hS hK
            obtain ⟨qD, qHB⟩ := hS
            have qD_0 := qD.cells 0 _ rfl
            have qD_1 := qD.cells 1 _ rfl
            have qD_2 := qD.cells 2 _ rfl
            have qD_3 := qD.cells 3 _ rfl
            have qD_4 := qD.cells 4 _ rfl
            have qD_5 := qD.cells 5 _ rfl
            first
              | (go_simp; exact hK.out _ ⟨qD, qHB⟩)
              | (go_simp; go_at_call 34; (with_reducible refine (IPond.pond_impl x5 _).mono ?_); rintro e uw1 ⟨rfl, hv⟩; go_wp2_with fail; exact hK.out _ ⟨qD.more hv, be qHB hv⟩)
              | (go_simp; go_at_call 35; (with_reducible refine (Pond5.ispond_spec x5 _).mono ?_); rintro e uw1 ⟨rfl, hv⟩; go_wp2_with fail; exact hK.out _ ⟨qD.more hv, be qHB hv⟩)
          try simp only [Act.put, List.setIfInBounds_toArray, List.set_cons_zero, List.set_cons_succ])
        refine SeqH.rest rfl ?_
        intro v12 hS
        clear D HB
        obtain ⟨D, HB⟩ := hS
        simp only [List.drop_succ_cons, List.drop_zero]
        have D_0 := D.cells 0 _ rfl
        have D_1 := D.cells 1 _ rfl
        have D_2 := D.cells 2 _ rfl
        have D_3 := D.cells 3 _ rfl
        have D_4 := D.cells 4 _ rfl
        have D_5 := D.cells 5 _ rfl
        have D_f0 := D.free 0 (by simp)
        have D_f1 := D.free 1 (by simp)
        have D_f2 := D.free 2 (by simp)
        have D_f3 := D.free 3 (by simp)
        have D_f4 := D.free 4 (by simp)
        have D_f5 := D.free 5 (by simp)
        have D_t := D.there
        go_wp2
        go_ret
        exact ⟨by simp, D.below⟩
      · skip
        go_wp2_with fail
        refine (drawBankOf A cap zs _ (HC.out.below HB)).mono ?_
        rintro e v13 ⟨L2, g2, d2, a2, b2, hl2, _, _, _, rfl, P2, hv13⟩
        replace HB := be HB hv13
        have zhv13 := hv13.size
        obtain ⟨x2, q2, hv2⟩ : ∃ x q, bankV L2 a2 b2 = .tuple #[.int .i64 x, .bool q] := by unfold bankV; split <;> exact ⟨_, _, rfl⟩
        have HV2 := Lib.hid hv2; clear hv2
        go_wp2_with fail
        refine (bankof_impl (some ⟨g2, 0, none⟩) d2 L2 a2 b2 _ (Rd.of_own P2) (own_cap P2) (by omega)).mono ?_
        rintro e v14 ⟨rfl, hv14⟩
        replace HB := be HB hv14
        replace P2 := own_keep P2 hv14
        have zhv14 := hv14.size
        rw [HV2.out]
        go_wp2_with fail
        refine (bankof_spec (some ⟨g2, 0, none⟩) d2 L2 a2 b2 _ (Rd.of_own P2) (by omega)).mono ?_
        rintro e v15 ⟨rfl, hv15⟩
        replace HB := be HB hv15
        replace P2 := own_keep P2 hv15
        have zhv15 := hv15.size
        rw [HV2.out]
        clear P2
        go_wp2_with fail
        refine (drawHolds A cap zs _ (HC.out.below HB)).mono ?_
        rintro e v16 ⟨L3, g3, d3, a3, hl3, _, _, rfl, P3, hv16⟩
        replace HB := be HB hv16
        have zhv16 := hv16.size
        obtain ⟨x3, q3, hv3⟩ : ∃ x q, holdsV L3 a3 = .tuple #[.int .i64 x, .bool q] := by unfold holdsV; split <;> exact ⟨_, _, rfl⟩
        have HV3 := Lib.hid hv3; clear hv3
        go_wp2_with fail
        refine (holds_impl (some ⟨g3, 0, none⟩) d3 L3 a3 _ (Rd.of_own P3) (own_cap P3) (by omega)).mono ?_
        rintro e v17 ⟨rfl, hv17⟩
        replace HB := be HB hv17
        replace P3 := own_keep P3 hv17
        have zhv17 := hv17.size
        rw [HV3.out]
        go_wp2_with fail
        refine (holds_spec (some ⟨g3, 0, none⟩) d3 L3 a3 _ (Rd.of_own P3) (by omega)).mono ?_
        rintro e v18 ⟨rfl, hv18⟩
        replace HB := be HB hv18
        replace P3 := own_keep P3 hv18
        have zhv18 := hv18.size
        rw [HV3.out]
        clear P3
        go_wp2_with fail
        refine (drawPondAt A cap zs _ (HC.out.below HB)).mono ?_
        rintro e v19 ⟨L4, g4, d4, a4, b4, hl4, _, _, _, rfl, P4, hv19⟩
        replace HB := be HB hv19
        have zhv19 := hv19.size
        obtain ⟨x4, q4, hv4⟩ : ∃ x q, Pond5.atV L4 a4 b4 = .tuple #[.int .i64 x, .bool q] := by unfold Pond5.atV; split <;> exact ⟨_, _, rfl⟩
        have HV4 := Lib.hid hv4; clear hv4
        go_wp2_with fail
        refine (Pond5.at_impl (some ⟨g4, 0, none⟩) d4 L4 a4 b4 _ (Rd.of_own P4) (own_cap P4) (by omega)).mono ?_
        rintro e v20 ⟨rfl, hv20⟩
        replace HB := be HB hv20
        replace P4 := own_keep P4 hv20
        have zhv20 := hv20.size
        rw [HV4.out]
        go_wp2_with fail
        refine (Pond5.at_spec (some ⟨g4, 0, none⟩) d4 L4 a4 b4 _ (Rd.of_own P4) (by omega)).mono ?_
        rintro e v21 ⟨rfl, hv21⟩
        replace HB := be HB hv21
        replace P4 := own_keep P4 hv21
        have zhv21 := hv21.size
        rw [HV4.out]
        clear P4
        go_wp2_with fail
        refine (drawIsPond A cap zs _ (HC.out.below HB)).mono ?_
        rintro e v22 ⟨x5, _, rfl, hv22⟩
        replace HB := be HB hv22
        have zhv22 := hv22.size
        go_wp2_with fail
        have D := Box.new HB [.int .i64 x5.f0, .int .i64 x5.f1, .int .i64 x5.f2, .int .i64 x5.f3, .int .i64 x5.f4, .int .i64 x5.f5] 34 (g := v22.heap.size) rfl
        replace HB := be HB (al (Below.refl _ _) (o := (.cells #[.int .i64 x5.f0, .int .i64 x5.f1, .int .i64 x5.f2, .int .i64 x5.f3, .int .i64 x5.f4, .int .i64 x5.f5] 34)))
        generalize (v22.alloc (.cells #[.int .i64 x5.f0, .int .i64 x5.f1, .int .i64 x5.f2, .int .i64 x5.f3, .int .i64 x5.f4, .int .i64 x5.f5] 34)) = W23 at D HB ⊢
        have D_0 := D.cells 0 _ rfl
        have D_1 := D.cells 1 _ rfl
        have D_2 := D.cells 2 _ rfl
        have D_3 := D.cells 3 _ rfl
        have D_4 := D.cells 4 _ rfl
        have D_5 := D.cells 5 _ rfl
        have D_f0 := D.free 0 (by simp)
        have D_f1 := D.free 1 (by simp)
        have D_f2 := D.free 2 (by simp)
        have D_f3 := D.free 3 (by simp)
        have D_f4 := D.free 4 (by simp)
        have D_f5 := D.free 5 (by simp)
        have D_t := D.there
        refine wp_region_last 25 (fun w' => Box (v22.heap.size) [.int .i64 x5.f0, .int .i64 x5.f1, .int .i64 x5.f2, .int .i64 x5.f3, .int .i64 x5.f4, .int .i64 x5.f5] w w' ∧ Below w.heap.size w w') (by kernel_rfl) (by kernel_rfl) (by kernel_rfl) ⟨D.drew, be HB (Below.refl _ _).drew⟩ ?_
        clear D_0 D_1 D_2 D_3 D_4 D_5 D_f0 D_f1 D_f2 D_f3 D_f4 D_f5 D_t
        simp only [List.take_succ_cons, List.take_zero]
        iterate 25 (
          apply SeqH.one
          · intro uw K hS hK
            obtain ⟨qD, qHB⟩ := hS
            have qD_0 := qD.cells 0 _ rfl
            have qD_1 := qD.cells 1 _ rfl
            have qD_2 := qD.cells 2 _ rfl
            have qD_3 := qD.cells 3 _ rfl
            have qD_4 := qD.cells 4 _ rfl
            have qD_5 := qD.cells 5 _ rfl
            first
              | (go_simp; exact hK.out _ ⟨qD, qHB⟩)
              | (go_simp; go_at_call 34; (with_reducible refine (IPond.pond_impl x5 _).mono ?_); rintro e uw1 ⟨rfl, hv⟩; go_wp2_with fail; exact hK.out _ ⟨qD.more hv, be qHB hv⟩)
              | (go_simp; go_at_call 35; (with_reducible refine (Pond5.ispond_spec x5 _).mono ?_); rintro e uw1 ⟨rfl, hv⟩; go_wp2_with fail; exact hK.out _ ⟨qD.more hv, be qHB hv⟩)
          try simp only [Act.put, List.setIfInBounds_toArray, List.set_cons_zero, List.set_cons_succ])
        refine SeqH.rest rfl ?_
        intro v24 hS
        clear D HB
        obtain ⟨D, HB⟩ := hS
        simp only [List.drop_succ_cons, List.drop_zero]
        have D_0 := D.cells 0 _ rfl
        have D_1 := D.cells 1 _ rfl
        have D_2 := D.cells 2 _ rfl
        have D_3 := D.cells 3 _ rfl
        have D_4 := D.cells 4 _ rfl
        have D_5 := D.cells 5 _ rfl
        have D_f0 := D.free 0 (by simp)
        have D_f1 := D.free 1 (by simp)
        have D_f2 := D.free 2 (by simp)
        have D_f3 := D.free 3 (by simp)
        have D_f4 := D.free 4 (by simp)
        have D_f5 := D.free 5 (by simp)
        have D_t := D.there
        go_wp2
        go_ret
        exact ⟨by simp, D.below⟩
end Go.Proofs.Ytfngglnjdeajfaa.PondLaw
