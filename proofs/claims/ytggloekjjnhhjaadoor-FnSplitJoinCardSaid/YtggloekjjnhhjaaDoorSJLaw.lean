/- FnSplitJoin, walked. -/
import Derived.Test.YtggloekjjnhhjaaDoorDSJ
import Derived.Test.YtggloekjjnhhjaaDoorJoin
import Derived.Test.YtggloekjjnhhjaaDoorLess
namespace Go.Proofs.YtggloekjjnhhjaaDoor.SJLaw
open Go.RowKit Go.Proofs.YtggloekjjnhhjaaDoor.Mem Go.Proofs.YtggloekjjnhhjaaDoor.Base Go.Proofs.YtggloekjjnhhjaaDoor.Boxes Go.Proofs.YtggloekjjnhhjaaDoor.Keep Go.Proofs.YtggloekjjnhhjaaDoor.Strs Go.Proofs.YtggloekjjnhhjaaDoor.Split Go.Proofs.YtggloekjjnhhjaaDoor.SplitIt Go.Proofs.YtggloekjjnhhjaaDoor.LawSplit Go.Proofs.YtggloekjjnhhjaaDoor.Join Go.Proofs.YtggloekjjnhhjaaDoor.DSJ
set_option linter.unusedVariables false
set_option maxRecDepth 100000
theorem jb_cons (b : UInt8) {m : List (List UInt8)} (h : m ≠ []) : jb b ([] :: m) = b :: jb b m := by
  cases m with
  | nil => exact absurd rfl h
  | cons x r => simp [jb, Lib.joinTail]
theorem jb_sp (b : UInt8) (l : List UInt8) : jb b (sp b l) = l := by
  induction l with
  | nil => simp [sp, jb, Lib.joinTail]
  | cons c l ih =>
    unfold sp
    split
    · rename_i h
      rw [jb_cons b (sp_ne b l), ih, h]
    · cases hq : sp b l with
      | nil => exact absurd hq (sp_ne b l)
      | cons x r =>
        rw [hq] at ih
        simp only [jb, List.cons_append] at ih ⊢
        rw [ih]
theorem sp_out (b : UInt8) (l : List UInt8) : ∀ x ∈ sp b l, b ∉ x := by
  induction l with
  | nil => intro x hx; simp [sp] at hx; subst hx; simp
  | cons c l ih =>
    unfold sp
    split
    · intro x hx
      rcases List.mem_cons.1 hx with h | h
      · subst h; simp
      · exact ih x h
    · rename_i hc
      cases hq : sp b l with
      | nil => exact absurd hq (sp_ne b l)
      | cons y r =>
        rw [hq] at ih
        intro x hx
        rcases List.mem_cons.1 hx with h | h
        · subst h
          intro hm
          rcases List.mem_cons.1 hm with h2 | h2
          · exact hc h2.symm
          · exact ih y (by simp) h2
        · exact ih x (by simp [h])
theorem bytes_parts (b : UInt8) (s : ByteArray) : Join.bytes (parts b s) = sp b s.data.toList := parts_list b s
theorem parts_good (b : UInt8) (s : ByteArray) (h : s.size ≤ 4000) : good (parts b s) b := by
  refine ⟨?_, ?_, ?_⟩
  · intro e
    have := bytes_parts b s
    rw [e] at this
    exact sp_ne b _ this.symm
  · intro x hx
    refine sp_out b s.data.toList _ ?_
    rw [← bytes_parts]
    exact List.mem_map.2 ⟨x, hx, rfl⟩
  · rw [bytes_parts, jb_sp]; simpa using h
theorem parts_back (b : UInt8) (s : ByteArray) (h : s.size ≤ 4000) : jres (parts b s) ⟨#[b]⟩ = .tuple #[.string s, .bool true] := by
  rw [jres_yes (parts_good b s h), yes, bytes_parts, jb_sp]
theorem part_small (b : UInt8) (s : ByteArray) : ∀ x ∈ parts b s, x.size ≤ s.size := by
  intro x hx
  have h1 : Lib.lens (Join.bytes (parts b s)) ≤ (jb b (Join.bytes (parts b s))).length := by rw [jb_len]; omega
  rw [bytes_parts, jb_sp] at h1
  have h2 : x.data.toList ∈ sp b s.data.toList := by rw [← bytes_parts]; exact List.mem_map.2 ⟨x, hx, rfl⟩
  have h3 : ∀ (m : List (List UInt8)) (y : List UInt8), y ∈ m → y.length ≤ Lib.lens m := by
    intro m
    induction m with
    | nil => intro y hy; cases hy
    | cons z m ih =>
      intro y hy
      have hc : Lib.lens (z :: m) = z.length + Lib.lens m := by simp [Lib.lens]
      rcases List.mem_cons.1 hy with h | h
      · subst h; omega
      · have := ih y h; omega
  have := h3 _ _ h2
  simp at this h1
  omega
theorem split_of (s sep : ByteArray) (h : s.size ≤ 10) : ∃ (M : List ByteArray) (q : Bool), M.length ≤ 11 ∧ (∀ x ∈ M, x.size ≤ 10) ∧ (sep.size ≠ 1 → q = false ∧ M = []) ∧ (sep.size = 1 → q = true ∧ jres M sep = .tuple #[.string s, .bool true]) ∧
    ∀ w, Calls Tryd.prog 6 #[.string s, .string sep] w (MPost M q w) := by
  by_cases h1 : sep.size = 1
  · obtain ⟨b, rfl⟩ := one_byte h1
    exact ⟨parts b s, true, by have := parts_len b s; omega, fun x hx => by have := part_small b s x hx; omega, fun h => absurd h1 h, fun _ => ⟨rfl, parts_back b s (by omega)⟩, fun w => impl_yes s b w (by omega)⟩
  · exact ⟨[], false, by simp, by simp, fun _ => ⟨rfl, rfl⟩, fun h => absurd h h1, fun w => impl_no s sep w (fun h => h1 h.1)⟩
theorem less_asym : ∀ (x y : List UInt8), (Op.bytesLess x y && Op.bytesLess y x) = false
  | [], [] => rfl
  | [], _ :: _ => by simp [Op.bytesLess]
  | _ :: _, [] => by simp [Op.bytesLess]
  | a :: x, b :: y => by
    have ih := less_asym x y
    simp only [Op.bytesLess]
    by_cases hab : a = b
    · subst hab
      have : ¬ (a < a) := by rw [UInt8.lt_iff_toNat_lt]; omega
      simpa [this] using ih
    · have hba : ¬ b = a := fun e => hab e.symm
      have : ¬ (a < b ∧ b < a) := by rw [UInt8.lt_iff_toNat_lt, UInt8.lt_iff_toNat_lt]; omega
      simp [hab, hba]
      intro h1
      rw [UInt8.lt_iff_toNat_lt] at *
      rw [UInt8.le_iff_toNat_le]
      omega
set_option maxHeartbeats 1600000 in
theorem law (A : Option Addr) (cap : Nat) (zs : List Int) (w : World) (hr : Rd w w.heap.size A (zs.map (Value.int .u8))) (hn : zs.length ≤ maxLen) (hb : ∀ z ∈ zs, 0 ≤ z ∧ z ≤ 255) :
    Calls Tryd.prog 3 #[.slice A zs.length cap] w (Yes w) := by
  by_cases hbig : 65536 < zs.length
  · have HG := Lib.hid (show Draw.bigB zs.length = true from decide_eq_true hbig)
    clear hr hb
    go_enter Tryd.func3, Tryd.ntmps3
    go_wp2_with fail
    refine (Draw.big_any A cap zs.length w hn).mono ?_
    rintro e w' ⟨rfl, rfl⟩
    rw [HG.out]
    go_wp2
    go_ret
    exact ⟨rfl, Below.refl _ _⟩
  have HG := Lib.hid (show Draw.bigB zs.length = false from decide_eq_false hbig)
  have HN := Lib.hid hn; clear hn
  have HC := Lib.hid (show Draw.Src w A zs from ⟨hr, by omega, hb⟩); clear hr hb
  go_enter Tryd.func3, Tryd.ntmps3
  go_wp2_with fail
  refine (Draw.big_any A cap zs.length w HN.out).mono ?_
  rintro e w' ⟨rfl, rfl⟩
  rw [HG.out]
  clear HG hbig HN
  go_wp2_with fail
  refine (drawSplit A cap zs w HC.out).mono ?_
  rintro e w1 ⟨s, sep, ⟨hs, hsep⟩, rfl, HB0⟩
  obtain ⟨M, q, hM, hMz, hno, hyes, hsp⟩ := split_of s sep hs
  unfold MPost at hsp
  have HSP := Lib.hid hsp; clear hsp
  have HMZ := Lib.hid hMz; clear hMz
  have HNO := Lib.hid hno; clear hno
  have HYES := Lib.hid hyes; clear hyes
  go_wp2_with fail
  refine (HSP.out _).mono ?_
  rintro e v1 ⟨A0, c0, rfl, O0, hv1⟩
  replace HB0 := be HB0 hv1
  have zhv1 := hv1.size
  go_wp2_with fail
  refine (drawJoin A cap zs _ (HC.out.below HB0)).mono ?_
  rintro e v2 ⟨L, g, c, mk, ⟨hL, hLz, hmk⟩, rfl, O2, hv2⟩
  replace HB0 := be HB0 hv2
  replace O0 := own_keep O0 hv2
  have zhv2 := hv2.size
  have HLZ := Lib.hid (show ∀ s ∈ L, s.size ≤ 1048576 from fun s hs => by have := hLz s hs; omega); clear hLz
  obtain ⟨r0, r1, hj⟩ := jres_form L mk
  have HJ := Lib.hid hj; clear hj
  have hcp := own_cap O2
  go_wp2_with fail
  refine (Join.impl_any _ c L mk _ (Rd.of_own O2) (by omega) HLZ.out (by unfold maxLen; omega) hcp).mono ?_
  rintro e v3 ⟨rfl, hv3⟩
  replace HB0 := be HB0 hv3
  replace O0 := own_keep O0 hv3
  replace O2 := own_keep O2 hv3
  have zhv3 := hv3.size
  rw [HJ.out]
  go_wp2_with fail
  refine (Join.spec_any _ c L mk _ _ (Rd.of_own O2) (by omega) HLZ.out (by unfold maxLen; omega)).mono ?_
  rintro e v4 ⟨rfl, hv4⟩
  replace HB0 := be HB0 hv4
  replace O0 := own_keep O0 hv4
  replace O2 := own_keep O2 hv4
  have zhv4 := hv4.size
  rw [HJ.out]
  go_wp2_with fail
  refine (drawLess A cap zs _ (HC.out.below HB0)).mono ?_
  rintro e v5 ⟨x, y, ⟨hx, hy⟩, rfl, hv5⟩
  replace HB0 := be HB0 hv5
  replace O0 := own_keep O0 hv5
  replace O2 := own_keep O2 hv5
  have zhv5 := hv5.size
  have hS := fun u => Less.spec_any x y u
  have hI := fun u => Less.impl_any x y u
  have hI2 := fun u => Less.impl_any y x u
  have hA := less_asym x.toList y.toList
  generalize Op.bytesLess x.toList y.toList = lp at hS hI hA
  generalize Op.bytesLess y.toList x.toList = lq at hI2 hA
  have HS := Lib.hid hS; clear hS
  have HI := Lib.hid hI; clear hI
  have HI2 := Lib.hid hI2; clear hI2
  have HA := Lib.hid hA; clear hA
  by_cases h1 : sep.size = 1
  · obtain ⟨rfl, hback⟩ := HYES.out h1
    have HBK := Lib.hid hback; clear hback
    clear HYES HNO
    have h1' : ((sep.size : Int) != 1) = false := by rw [h1]; rfl
    have hcp2 := own_cap O0
    have HMZ2 := Lib.hid (show ∀ s ∈ M, s.size ≤ 1048576 from fun s hs => by have := HMZ.out s hs; omega)
    cases lp
    · go_wp2_with (first | (go_at_call 12; refine (HS.out _).mono ?_; rintro e w' ⟨rfl, rfl⟩) | (go_at_call 11; first | (refine (HI.out _).mono ?_; rintro e w' ⟨rfl, rfl⟩) | (refine (HI2.out _).mono ?_; rintro e w' ⟨rfl, rfl⟩)))
      go_wp2_with fail
      refine (Join.impl_any A0 c0 M sep _ (Rd.of_own O0) (by omega) HMZ2.out (by unfold maxLen; omega) hcp2).mono ?_
      rintro e v6 ⟨rfl, hv6⟩
      replace HB0 := be HB0 hv6
      replace O0 := own_keep O0 hv6
      replace O2 := own_keep O2 hv6
      have zhv6 := hv6.size
      rw [HBK.out]
      go_wp2
      go_ret
      exact ⟨rfl, HB0⟩
    · have hq : lq = false := by simpa using HA.out
      subst hq
      go_wp2_with (first | (go_at_call 12; refine (HS.out _).mono ?_; rintro e w' ⟨rfl, rfl⟩) | (go_at_call 11; first | (refine (HI.out _).mono ?_; rintro e w' ⟨rfl, rfl⟩) | (refine (HI2.out _).mono ?_; rintro e w' ⟨rfl, rfl⟩)))
      go_wp2_with fail
      refine (Join.impl_any A0 c0 M sep _ (Rd.of_own O0) (by omega) HMZ2.out (by unfold maxLen; omega) hcp2).mono ?_
      rintro e v7 ⟨rfl, hv7⟩
      replace HB0 := be HB0 hv7
      replace O0 := own_keep O0 hv7
      replace O2 := own_keep O2 hv7
      have zhv7 := hv7.size
      rw [HBK.out]
      go_wp2
      go_ret
      exact ⟨rfl, HB0⟩
  · obtain ⟨rfl, rfl⟩ := HNO.out h1
    clear HYES HNO
    have h1' : ((sep.size : Int) != 1) = true := by rw [bne_iff_ne]; omega
    cases lp
    · go_wp2_with (first | (go_at_call 12; refine (HS.out _).mono ?_; rintro e w' ⟨rfl, rfl⟩) | (go_at_call 11; first | (refine (HI.out _).mono ?_; rintro e w' ⟨rfl, rfl⟩) | (refine (HI2.out _).mono ?_; rintro e w' ⟨rfl, rfl⟩)))
      go_wp2
      go_ret
      exact ⟨rfl, HB0⟩
    · have hq : lq = false := by simpa using HA.out
      subst hq
      go_wp2_with (first | (go_at_call 12; refine (HS.out _).mono ?_; rintro e w' ⟨rfl, rfl⟩) | (go_at_call 11; first | (refine (HI.out _).mono ?_; rintro e w' ⟨rfl, rfl⟩) | (refine (HI2.out _).mono ?_; rintro e w' ⟨rfl, rfl⟩)))
      go_wp2
      go_ret
      exact ⟨rfl, HB0⟩
end Go.Proofs.YtggloekjjnhhjaaDoor.SJLaw
