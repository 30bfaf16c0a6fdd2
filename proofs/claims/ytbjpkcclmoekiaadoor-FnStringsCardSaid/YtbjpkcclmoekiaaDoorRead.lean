/- ParseInt, second part: the model's reader. -/
import Derived.Test.YtbjpkcclmoekiaaDoorParse
namespace Go.Proofs.YtbjpkcclmoekiaaDoor.Parse
open Go.RowKit Go.Proofs.YtbjpkcclmoekiaaDoor.Mem Go.Proofs.YtbjpkcclmoekiaaDoor.Base Go.Proofs.YtbjpkcclmoekiaaDoor.Num
set_option linter.unusedVariables false

/-! ### the model -/
theorem read_dig {t : ByteArray} {k n : Nat} (h : k < t.size) (hl : t.data.toList = Lib.decDigits n) : dig t[k] :=
  dec_dig n _ (List.mem_of_getElem? (at_list t k h _ hl))
theorem scan_step {t : ByteArray} {k nv : Nat} (h : k < t.size) (hv : nv = val (t.data.toList.take k)) (ha : ∀ c ∈ t.data.toList.take k, dig c) (hd : dig t[k]) :
    10 * nv + (t[k].toNat - 48) = val (t.data.toList.take (k + 1)) ∧ ∀ c ∈ t.data.toList.take (k + 1), dig c := by
  have e := List.take_succ_eq_append_getElem (l := t.data.toList) (i := k) (by simpa using h)
  have e2 : t.data.toList[k]'(by simpa using h) = t[k] := rfl
  rw [e, e2, val_snoc, hv]
  refine ⟨rfl, fun c hc => ?_⟩
  rcases List.mem_append.1 hc with hc | hc
  · exact ha c hc
  · rw [List.mem_singleton.1 hc]; exact hd
theorem scan_le {t : ByteArray} {k n : Nat} (h : k < t.size) (h6 : t.size ≤ 6) (hv : n = val (t.data.toList.take (k + 1))) (ha : ∀ c ∈ t.data.toList.take (k + 1), dig c) : n ≤ 999999 := by
  have h1 := val_lt _ ha
  have h2 : (t.data.toList.take (k + 1)).length ≤ 6 := by simp; omega
  have h3 : 10 ^ (t.data.toList.take (k + 1)).length ≤ 10 ^ 6 := Nat.pow_le_pow_right (by omega) h2
  omega
theorem scan_num {n : Nat} {c : UInt8} (h : 48 ≤ c.toNat) : Value.int .i64 (10 * (n : Int) + ((c.toNat : Int) - 48)) = .int .i64 ((10 * n + (c.toNat - 48) : Nat) : Int) := by
  congr 1; omega

set_option maxRecDepth 100000 in
set_option maxHeartbeats 2000000 in
theorem read_spec (s : ByteArray) (w : World) (hs : s.size ≤ maxLen) : Calls Tryd.prog 42 #[.string s] w (PPost s w) := by
  unfold maxLen at hs
  by_cases h1 : 1 < s.size
  · have hb0 := s[0].toNat_lt
    by_cases h45 : s[0].toNat = 45
    · have hc1 : ((s[0].toNat : Int) == 45) = true := by rw [h45]; rfl
      have H45 := Lib.hid h45; clear h45
      have htl : (s.extract 1 s.size).data.toList = s.data.toList.drop 1 := Lib.extract_to_end s 1
      have HT0 := Lib.hid (show ∀ m, Reads s m → (s.extract 1 s.size).data.toList = Lib.decDigits m.natAbs ∧ m = -(m.natAbs : Int) from fun m hr => by
        have hm : m < 0 := by
          rcases Int.lt_or_le m 0 with h | h
          · exact h
          · have := at_list s 0 (by omega) _ (reads_pos hr h)
            have := dec_dig _ _ (List.mem_of_getElem? this)
            have h3 := H45.out
            unfold dig at this; omega
        rw [htl, reads_neg hr hm]
        exact ⟨rfl, by omega⟩)
      have htz : (s.extract 1 s.size).size = s.size - 1 := by simp [ByteArray.size_extract]
      have hlen : (s.extract 1 s.size).size < s.size := by omega
      have hlen2 : (s.extract 1 s.size).size ≤ s.size := by omega
      have HTZ := Lib.hid htz
      clear htl htz
      go_enter Tryd.func42, Tryd.ntmps42
      go_wp2_with fail
      generalize s.extract 1 s.size = t at *
      have HT := Lib.hid HT0.out; clear HT0
      rw [← HTZ.out]
      have hts : t.size ≤ 9223372036854775807 := by omega
      by_cases hin : inB (t.size : Int) 1 6 = true
      · have hb := of_inB hin
        have HI := Lib.hid hin; clear hin
        refine (in_any _ _ _ _).mono ?_
        rintro e w' ⟨rfl, rfl⟩
        rw [HI.out]
        go_wp2
        go_loop [5, 6] (fun n i => ∃ k : Nat, k ≤ t.size ∧ i = .int .i64 k ∧ ∃ nv : Nat, n = .int .i64 (nv : Int) ∧ nv = val (t.data.toList.take k) ∧ nv ≤ 999999 ∧ ∀ c ∈ t.data.toList.take k, dig c) (fun _ i => t.size - (intOf i).toNat)
        case atStart => exact ⟨0, Nat.zero_le _, rfl, 0, rfl, by simp [val], by omega, by simp⟩
        case round =>
          obtain ⟨k, hk, rfl, nv, rfl, hv, hn, hall⟩ := hrel
          have HV := Lib.hid hv; clear hv
          have HA := Lib.hid hall; clear hall
          by_cases hlt : k < t.size
          · have hc := t[k].toNat_lt
            by_cases hd1 : 48 ≤ t[k].toNat
            · by_cases hd2 : t[k].toNat ≤ 57
              · have HS := Lib.hid (scan_step hlt HV.out HA.out ⟨hd1, hd2⟩)
                have hle := scan_le hlt (by omega) HS.out.1 HS.out.2
                go_wp2
                go_round
                case rel => exact ⟨k + 1, by omega, by go_num, 10 * nv + (t[k].toNat - 48), scan_num hd1, HS.out.1, hle, HS.out.2⟩
                case measure => simp [intOf]; omega
              · have hd2' : decide ((57 : Int) < t[k].toNat) = true := decide_eq_true (by omega)
                go_wp2
                go_ret2
                exact p_no (fun m hr => by have := read_dig hlt (HT.out m hr).1; unfold dig at this; omega) (Below.refl _ _)
            · go_wp2
              go_ret2
              exact p_no (fun m hr => by have := read_dig hlt (HT.out m hr).1; unfold dig at this; omega) (Below.refl _ _)
          · have hkk : k = t.size := by omega
            have HX := Lib.hid (show ∀ m, Reads s m → m = (-(nv : Int)) from fun m hr => by
              have h1 := HV.out
              rw [List.take_of_length_le (by simp; omega), (HT.out m hr).1, dec_val] at h1
              have h2 := (HT.out m hr).2
              omega)
            have HN := Lib.hid (num_any (-(nv : Int)) (by omega) (by omega))
            have HY := Lib.hid (show fmtYes (-(nv : Int)) = true from inB_true (by omega))
            have hL : (⟨(Lib.itoa (-(nv : Int))).toArray⟩ : ByteArray).size ≤ 1000002 := by
              show (List.toArray _).size ≤ _; rw [List.size_toArray]; exact itoa_len _ (by omega) (by omega)
            generalize hR : (⟨(Lib.itoa (-(nv : Int))).toArray⟩ : ByteArray) = R at hL
            have HR := Lib.hid hR; clear hR
            go_wp2_with fail
            refine (HN.out _).mono ?_
            rintro e w' ⟨rfl, q, rfl⟩
            rw [HR.out]
            go_wp2
            · have hh : (!(R.toList == s.toList)) = true := by assumption
              go_ret2
              exact p_no (fun m hr => str_ne_true hh (by rw [← HR.out]; exact WideShapes.bytes_inj (by rw [hr.2, HX.out m hr]))) ((Drawn.n _ _).below _)
            · have hh : (!(R.toList == s.toList)) = false := by assumption
              go_ret2
              exact p_yes ⟨HY.out, by rw [← str_ne_false hh, ← HR.out]⟩ ((Drawn.n _ _).below _)
      · have hin' : inB (t.size : Int) 1 6 = false := by simpa using hin
        have hb := of_not_inB hin'
        have HI := Lib.hid hin'; clear hin hin'
        refine (in_any _ _ _ _).mono ?_
        rintro e w' ⟨rfl, rfl⟩
        rw [HI.out]
        go_wp2
        go_ret2
        exact p_no (fun m hr => by have h1 := size_list t _ (HT.out m hr).1; have h2 := dec_pos m.natAbs; have h3 := dec_le 5 m.natAbs (by have := reads_bd hr; omega); omega) (Below.refl _ _)
    · have hc1 : ((s[0].toNat : Int) == 45) = false := by rw [beq_eq_false_iff_ne]; omega
      have HT := Lib.hid (show ∀ m, Reads s m → s.data.toList = Lib.decDigits m.natAbs ∧ m = (m.natAbs : Int) from fun m hr => by
        have hm : 0 ≤ m := by
          rcases Int.lt_or_le m 0 with h | h
          · exfalso
            have h2 := at_list s 0 (by omega) _ (reads_neg hr h)
            simp only [List.getElem?_cons_zero, Option.some.injEq] at h2
            rw [← h2] at h45; exact h45 rfl
          · exact h
        rw [reads_pos hr hm]
        exact ⟨by congr 1; omega, by omega⟩)
      clear h45
      go_enter Tryd.func42, Tryd.ntmps42
      go_wp2_with fail
      have hts : s.size ≤ 9223372036854775807 := by omega
      by_cases hin : inB (s.size : Int) 1 6 = true
      · have hb := of_inB hin
        have HI := Lib.hid hin; clear hin
        refine (in_any _ _ _ _).mono ?_
        rintro e w' ⟨rfl, rfl⟩
        rw [HI.out]
        go_wp2
        go_loop [5, 6] (fun n i => ∃ k : Nat, k ≤ s.size ∧ i = .int .i64 k ∧ ∃ nv : Nat, n = .int .i64 (nv : Int) ∧ nv = val (s.data.toList.take k) ∧ nv ≤ 999999 ∧ ∀ c ∈ s.data.toList.take k, dig c) (fun _ i => s.size - (intOf i).toNat)
        case atStart => exact ⟨0, Nat.zero_le _, rfl, 0, rfl, by simp [val], by omega, by simp⟩
        case round =>
          obtain ⟨k, hk, rfl, nv, rfl, hv, hn, hall⟩ := hrel
          have HV := Lib.hid hv; clear hv
          have HA := Lib.hid hall; clear hall
          by_cases hlt : k < s.size
          · have hc := s[k].toNat_lt
            by_cases hd1 : 48 ≤ s[k].toNat
            · by_cases hd2 : s[k].toNat ≤ 57
              · have HS := Lib.hid (scan_step hlt HV.out HA.out ⟨hd1, hd2⟩)
                have hle := scan_le hlt (by omega) HS.out.1 HS.out.2
                go_wp2
                go_round
                case rel => exact ⟨k + 1, by omega, by go_num, 10 * nv + (s[k].toNat - 48), scan_num hd1, HS.out.1, hle, HS.out.2⟩
                case measure => simp [intOf]; omega
              · have hd2' : decide ((57 : Int) < s[k].toNat) = true := decide_eq_true (by omega)
                go_wp2
                go_ret2
                exact p_no (fun m hr => by have := read_dig hlt (HT.out m hr).1; unfold dig at this; omega) (Below.refl _ _)
            · go_wp2
              go_ret2
              exact p_no (fun m hr => by have := read_dig hlt (HT.out m hr).1; unfold dig at this; omega) (Below.refl _ _)
          · have hkk : k = s.size := by omega
            have HX := Lib.hid (show ∀ m, Reads s m → m = (nv : Int) from fun m hr => by
              have h1 := HV.out
              rw [List.take_of_length_le (by simp; omega), (HT.out m hr).1, dec_val] at h1
              have h2 := (HT.out m hr).2
              omega)
            have HN := Lib.hid (num_any (nv : Int) (by omega) (by omega))
            have HY := Lib.hid (show fmtYes (nv : Int) = true from inB_true (by omega))
            have hL : (⟨(Lib.itoa (nv : Int)).toArray⟩ : ByteArray).size ≤ 1000002 := by
              show (List.toArray _).size ≤ _; rw [List.size_toArray]; exact itoa_len _ (by omega) (by omega)
            generalize hR : (⟨(Lib.itoa (nv : Int)).toArray⟩ : ByteArray) = R at hL
            have HR := Lib.hid hR; clear hR
            go_wp2_with fail
            refine (HN.out _).mono ?_
            rintro e w' ⟨rfl, q, rfl⟩
            rw [HR.out]
            go_wp2
            · have hh : (!(R.toList == s.toList)) = true := by assumption
              go_ret2
              exact p_no (fun m hr => str_ne_true hh (by rw [← HR.out]; exact WideShapes.bytes_inj (by rw [hr.2, HX.out m hr]))) ((Drawn.n _ _).below _)
            · have hh : (!(R.toList == s.toList)) = false := by assumption
              go_ret2
              exact p_yes ⟨HY.out, by rw [← str_ne_false hh, ← HR.out]⟩ ((Drawn.n _ _).below _)
      · have hin' : inB (s.size : Int) 1 6 = false := by simpa using hin
        have hb := of_not_inB hin'
        have HI := Lib.hid hin'; clear hin hin'
        refine (in_any _ _ _ _).mono ?_
        rintro e w' ⟨rfl, rfl⟩
        rw [HI.out]
        go_wp2
        go_ret2
        exact p_no (fun m hr => by have h1 := size_list s _ (HT.out m hr).1; have h2 := dec_pos m.natAbs; have h3 := dec_le 5 m.natAbs (by have := reads_bd hr; omega); omega) (Below.refl _ _)
  · have HT := Lib.hid (show ∀ m, Reads s m → s.data.toList = Lib.decDigits m.natAbs ∧ m = (m.natAbs : Int) from fun m hr => by
      have hm : 0 ≤ m := by
        rcases Int.lt_or_le m 0 with h | h
        · exfalso
          have h2 := size_list s _ (reads_neg hr h)
          have h3 := dec_pos m.natAbs
          rw [List.length_cons] at h2; omega
        · exact h
      rw [reads_pos hr hm]
      exact ⟨by congr 1; omega, by omega⟩)
    have h1' : decide ((1 : Int) < s.size) = false := decide_eq_false (by omega)
    go_enter Tryd.func42, Tryd.ntmps42
    go_wp2_with fail
    have hts : s.size ≤ 9223372036854775807 := by omega
    by_cases hin : inB (s.size : Int) 1 6 = true
    · have hb := of_inB hin
      have HI := Lib.hid hin; clear hin
      refine (in_any _ _ _ _).mono ?_
      rintro e w' ⟨rfl, rfl⟩
      rw [HI.out]
      go_wp2
      go_loop [5, 6] (fun n i => ∃ k : Nat, k ≤ s.size ∧ i = .int .i64 k ∧ ∃ nv : Nat, n = .int .i64 (nv : Int) ∧ nv = val (s.data.toList.take k) ∧ nv ≤ 999999 ∧ ∀ c ∈ s.data.toList.take k, dig c) (fun _ i => s.size - (intOf i).toNat)
      case atStart => exact ⟨0, Nat.zero_le _, rfl, 0, rfl, by simp [val], by omega, by simp⟩
      case round =>
        obtain ⟨k, hk, rfl, nv, rfl, hv, hn, hall⟩ := hrel
        have HV := Lib.hid hv; clear hv
        have HA := Lib.hid hall; clear hall
        by_cases hlt : k < s.size
        · have hc := s[k].toNat_lt
          by_cases hd1 : 48 ≤ s[k].toNat
          · by_cases hd2 : s[k].toNat ≤ 57
            · have HS := Lib.hid (scan_step hlt HV.out HA.out ⟨hd1, hd2⟩)
              have hle := scan_le hlt (by omega) HS.out.1 HS.out.2
              go_wp2
              go_round
              case rel => exact ⟨k + 1, by omega, by go_num, 10 * nv + (s[k].toNat - 48), scan_num hd1, HS.out.1, hle, HS.out.2⟩
              case measure => simp [intOf]; omega
            · have hd2' : decide ((57 : Int) < s[k].toNat) = true := decide_eq_true (by omega)
              go_wp2
              go_ret2
              exact p_no (fun m hr => by have := read_dig hlt (HT.out m hr).1; unfold dig at this; omega) (Below.refl _ _)
          · go_wp2
            go_ret2
            exact p_no (fun m hr => by have := read_dig hlt (HT.out m hr).1; unfold dig at this; omega) (Below.refl _ _)
        · have hkk : k = s.size := by omega
          have HX := Lib.hid (show ∀ m, Reads s m → m = (nv : Int) from fun m hr => by
            have h1 := HV.out
            rw [List.take_of_length_le (by simp; omega), (HT.out m hr).1, dec_val] at h1
            have h2 := (HT.out m hr).2
            omega)
          have HN := Lib.hid (num_any (nv : Int) (by omega) (by omega))
          have HY := Lib.hid (show fmtYes (nv : Int) = true from inB_true (by omega))
          have hL : (⟨(Lib.itoa (nv : Int)).toArray⟩ : ByteArray).size ≤ 1000002 := by
            show (List.toArray _).size ≤ _; rw [List.size_toArray]; exact itoa_len _ (by omega) (by omega)
          generalize hR : (⟨(Lib.itoa (nv : Int)).toArray⟩ : ByteArray) = R at hL
          have HR := Lib.hid hR; clear hR
          go_wp2_with fail
          refine (HN.out _).mono ?_
          rintro e w' ⟨rfl, q, rfl⟩
          rw [HR.out]
          go_wp2
          · have hh : (!(R.toList == s.toList)) = true := by assumption
            go_ret2
            exact p_no (fun m hr => str_ne_true hh (by rw [← HR.out]; exact WideShapes.bytes_inj (by rw [hr.2, HX.out m hr]))) ((Drawn.n _ _).below _)
          · have hh : (!(R.toList == s.toList)) = false := by assumption
            go_ret2
            exact p_yes ⟨HY.out, by rw [← str_ne_false hh, ← HR.out]⟩ ((Drawn.n _ _).below _)
    · have hin' : inB (s.size : Int) 1 6 = false := by simpa using hin
      have hb := of_not_inB hin'
      have HI := Lib.hid hin'; clear hin hin'
      refine (in_any _ _ _ _).mono ?_
      rintro e w' ⟨rfl, rfl⟩
      rw [HI.out]
      go_wp2
      go_ret2
      exact p_no (fun m hr => by have h1 := size_list s _ (HT.out m hr).1; have h2 := dec_pos m.natAbs; have h3 := dec_le 5 m.natAbs (by have := reads_bd hr; omega); omega) (Below.refl _ _)

theorem parse_spec (s : ByteArray) (w : World) (hs : s.size ≤ maxLen) : Calls Tryd.prog 16 #[.string s] w (PPost s w) := by
  go_enter Tryd.func16, Tryd.ntmps16
  go_wp2_with fail
  refine (read_spec s w hs).mono ?_
  rintro e w' ⟨hh, hB⟩
  have HB := Lib.hid hB; clear hB
  rcases hh with ⟨n, hr, rfl⟩ | ⟨hn, rfl⟩
  · have HR := Lib.hid hr; clear hr
    go_wp2
    go_ret2
    exact p_yes HR.out HB.out
  · have HN := Lib.hid hn; clear hn
    go_wp2
    go_ret2
    exact p_no HN.out HB.out

set_option maxHeartbeats 1000000 in
theorem parse_law (s : ByteArray) (w : World) (hs : s.size ≤ maxLen) (ht : Tab w) : Calls Tryd.prog 6 #[.string s] w fun e w' => e = .returned (.bool true) ∧ Below w.heap.size w w' := by
  have HT := Lib.hid ht; clear ht
  have HS := Lib.hid hs
  unfold maxLen at hs
  go_enter Tryd.func6, Tryd.ntmps6
  by_cases hb : s.size ≤ 1048576
  · go_wp2_with fail
    refine (parse_spec s w HS.out).mono ?_
    rintro e w1 ⟨hh, hB1⟩
    have HB1 := Lib.hid hB1; clear hB1
    rcases hh with ⟨n, hr, rfl⟩ | ⟨hn, rfl⟩
    · have HR := Lib.hid hr; clear hr
      go_wp2_with fail
      refine (parse_impl s w1 HS.out (HT.out.below HB1.out)).mono ?_
      rintro e w2 ⟨hh, hB2⟩
      have HB2 := Lib.hid (HB1.out.trans (hB2.mono HB1.out.size)); clear hB2
      rcases hh with ⟨m, hm, rfl⟩ | ⟨hm, rfl⟩
      · obtain rfl := reads_inj HR.out hm
        clear hm
        go_wp2
        go_ret
        exact ⟨rfl, HB2.out⟩
      · exact absurd HR.out (hm n)
    · have HN := Lib.hid hn; clear hn
      go_wp2_with fail
      refine (parse_impl s w1 HS.out (HT.out.below HB1.out)).mono ?_
      rintro e w2 ⟨hh, hB2⟩
      have HB2 := Lib.hid (HB1.out.trans (hB2.mono HB1.out.size)); clear hB2
      rcases hh with ⟨m, hm, rfl⟩ | ⟨hm, rfl⟩
      · exact absurd hm (HN.out m)
      · clear hm
        go_wp2
        go_ret
        exact ⟨rfl, HB2.out⟩
  · go_wp2
    go_ret
    exact ⟨rfl, Below.refl _ _⟩
end Go.Proofs.YtbjpkcclmoekiaaDoor.Parse
