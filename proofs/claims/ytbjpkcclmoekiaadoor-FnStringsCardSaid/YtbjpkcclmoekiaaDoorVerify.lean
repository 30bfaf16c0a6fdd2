/- VerifyChecksum, of the model and of the program. -/
import Derived.Test.YtbjpkcclmoekiaaDoorSeal
import Derived.Test.YtbjpkcclmoekiaaDoorSplit
namespace Go.Proofs.YtbjpkcclmoekiaaDoor.Verify
open Go.RowKit Go.Proofs.YtbjpkcclmoekiaaDoor.Mem Go.Proofs.YtbjpkcclmoekiaaDoor.Base Go.Proofs.YtbjpkcclmoekiaaDoor.Num Go.Proofs.YtbjpkcclmoekiaaDoor.Bytes Go.Proofs.YtbjpkcclmoekiaaDoor.Strs Go.Proofs.YtbjpkcclmoekiaaDoor.Sum Go.Proofs.YtbjpkcclmoekiaaDoor.Seal Go.Proofs.YtbjpkcclmoekiaaDoor.Split
set_option linter.unusedVariables false

def pre (b : UInt8) (l : List UInt8) : List UInt8 := l.takeWhile (fun c => c != b)
theorem sp_head (b : UInt8) (l : List UInt8) : ∃ r, sp b l = pre b l :: r := by
  induction l with
  | nil => exact ⟨[], rfl⟩
  | cons c l ih =>
    obtain ⟨r, hr⟩ := ih
    by_cases h : c = b
    · exact ⟨sp b l, by rw [sp, if_pos h, pre, List.takeWhile_cons]; simp [h]⟩
    · refine ⟨r, ?_⟩
      have e : pre b (c :: l) = c :: pre b l := by unfold pre; rw [List.takeWhile_cons]; simp [h]
      rw [sp, if_neg h, hr, e]
theorem pre_not (b : UInt8) (l : List UInt8) : b ∉ pre b l := by
  intro h
  have := List.all_takeWhile (p := fun c => c != b) (l := l)
  rw [List.all_eq_true] at this
  have := this b h
  simp at this
theorem pre_app (b : UInt8) (t r : List UInt8) (h : b ∉ t) : pre b (t ++ b :: r) = t := by
  unfold pre
  induction t with
  | nil => simp
  | cons c t ih =>
    have hc : c ≠ b := fun e => h (by simp [e])
    rw [List.cons_append, List.takeWhile_cons]
    simp only [bne_iff_ne, ne_eq, hc, not_false_eq_true, if_true]
    rw [ih (fun e => h (by simp [e]))]
theorem pre_len (b : UInt8) (l : List UInt8) : (pre b l).length ≤ l.length := List.Sublist.length_le (List.takeWhile_sublist _)
theorem pre_all (b : UInt8) (l : List UInt8) (h : ∀ k : Nat, l[k]? ≠ some b) : pre b l = l := by
  unfold pre
  induction l with
  | nil => rfl
  | cons c l ih =>
    have hc : c ≠ b := fun e => h 0 (by rw [e]; rfl)
    rw [List.takeWhile_cons]
    simp only [bne_iff_ne, ne_eq, hc, not_false_eq_true, if_true]
    rw [ih (fun k hk => h (k + 1) (by simpa using hk))]
theorem pre_at (b : UInt8) (l : List UInt8) (k : Nat) (h : l[k]? = some b) (hn : ∀ j : Nat, j < k → l[j]? ≠ some b) : pre b l = l.take k := by
  obtain ⟨hk, hb⟩ := List.getElem?_eq_some_iff.1 h
  have e : l = l.take k ++ b :: l.drop (k + 1) := by
    conv => lhs; rw [← List.take_append_drop k l, List.drop_eq_getElem_cons hk, hb]
  have hnot : b ∉ l.take k := by
    intro hm
    obtain ⟨j, hj⟩ := List.getElem?_of_mem hm
    rw [List.getElem?_take] at hj
    split at hj
    · exact hn j (by omega) hj
    · cases hj
  conv => lhs; rw [e]
  exact pre_app b _ _ hnot

theorem seal_pre {s t : ByteArray} (hg : goodS t) (h : sealB t = s) : t.data.toList = pre 35 s.data.toList := by
  rw [← h, sealB_list, sealL, pre_app 35 _ _ hg.2.1]
/-- the one text whose checksummed form may be s. -/
def tx (s : ByteArray) : ByteArray := ⟨(pre 35 s.data.toList).toArray⟩
theorem tx_list (s : ByteArray) : (tx s).data.toList = pre 35 s.data.toList := by simp [tx]
theorem tx_size (s : ByteArray) : (tx s).size ≤ s.size := by
  show (List.toArray _).size ≤ _
  rw [List.size_toArray]
  have := pre_len 35 s.data.toList
  simpa using this
theorem tx_of {s t : ByteArray} (hg : goodS t) (h : sealB t = s) : t = tx s := WideShapes.bytes_inj (by rw [tx_list]; exact seal_pre hg h)
theorem tx_not (s : ByteArray) : (35 : UInt8) ∉ (tx s).data.toList := by rw [tx_list]; exact pre_not 35 _

def V (s : ByteArray) : Prop := goodS (tx s) ∧ sealB (tx s) = s
def VPost (s : ByteArray) (w : World) (e : Ending) (w' : World) : Prop :=
  ((V s ∧ e = .returned (.tuple #[.string (tx s), .bool true])) ∨ (¬ V s ∧ e = .returned (.tuple #[.string ⟨#[]⟩, .bool false]))) ∧ Below w.heap.size w w'
theorem v_yes {s : ByteArray} {w w' : World} (h : V s) (hw : Below w.heap.size w w') : VPost s w (.returned (.tuple #[.string (tx s), .bool true])) w' := ⟨.inl ⟨h, rfl⟩, hw⟩
theorem v_no {s : ByteArray} {w w' : World} (h : ¬ V s) (hw : Below w.heap.size w w') : VPost s w (.returned (.tuple #[.string ⟨#[]⟩, .bool false])) w' := ⟨.inr ⟨h, rfl⟩, hw⟩

set_option maxRecDepth 100000 in
set_option maxHeartbeats 1000000 in
theorem ver_spec (s : ByteArray) (w : World) (hs : s.size ≤ maxLen) : Calls Tryd.prog 34 #[.string s] w (VPost s w) := by
  unfold maxLen at hs
  by_cases h1 : s.size ≤ 4000
  · have HS := Lib.hid (show Calls Tryd.prog 53 #[.string s, .int .u8 35] w (SpPost s 35 w) from split_spec s 35 w (by omega))
    have HL := Lib.hid (fun W => seal_spec (tx s) W (by have := tx_size s; omega))
    go_enter Tryd.func34, Tryd.ntmps34
    go_wp2_with fail
    refine HS.out.mono ?_
    rintro e w1 ⟨ss, A, c, rfl, hl, ho, hB⟩
    obtain ⟨r, hr⟩ := sp_head 35 s.data.toList
    rw [hr] at hl
    obtain ⟨t, ss', rfl⟩ : ∃ t ss', ss = t :: ss' := by
      cases ss with
      | nil => simp [listOf] at hl
      | cons t ss' => exact ⟨t, ss', rfl⟩
    have ht : t = tx s := by
      apply WideShapes.bytes_inj
      rw [tx_list]
      simp [listOf] at hl
      exact hl.1
    subst ht
    obtain ⟨b, o, rfl, hb, hc⟩ := (Rd.of_own ho).at (k := 0) (by rw [strv_len]; simp)
    have hcell : w1.cell? ⟨b, o, none⟩ = some (.string (tx s)) := hc 0 _ rfl
    have hpos : (0 : Int) < ((tx s :: ss').length : Int) := by simp only [List.length_cons]; omega
    have HB := Lib.hid hB
    clear hc ho hl hr hB hb
    generalize (tx s :: ss').length = n at *
    have hpos' : 0 < n := by omega
    go_wp2_with fail
    refine (HL.out _).mono ?_
    rintro e w2 ⟨rfl, hD⟩
    have HB2 := Lib.hid (HB.out.trans (hD.below _)); clear hD
    generalize hT : tx s = T at *
    have HT := Lib.hid hT; clear hT
    go_wp2
    · have hh : (!((sealB T).toList == s.toList)) = true := by assumption
      go_ret2
      refine v_no (fun v => ?_) HB2.out
      have h2 := v.2
      rw [HT.out] at h2
      exact str_ne_true hh h2
    · have hh : (!((sealB T).toList == s.toList)) = false := by assumption
      go_ret2
      have he := str_ne_false hh
      have hv : V s := ⟨⟨by have := tx_size s; omega, tx_not s, by rw [HT.out, he]; exact h1⟩, by rw [HT.out]; exact he⟩
      have := v_yes hv HB2.out
      rw [HT.out] at this
      exact this
  · have hn : ¬ V s := fun v => h1 (by have := v.1.2.2; rw [v.2] at this; exact this)
    have HN := Lib.hid hn; clear hn
    go_enter Tryd.func34, Tryd.ntmps34
    go_wp2
    go_ret2
    exact v_no HN.out (Below.refl _ _)
def CutPost (s : ByteArray) (w : World) (e : Ending) (w' : World) : Prop :=
  ∃ (r : ByteArray) (f : Bool), e = .returned (.tuple #[.string (tx s), .string r, .bool f]) ∧ Drawn w w'
theorem cut_mk {s t r : ByteArray} {f : Bool} {w w' : World} (h : t = tx s) (hw : Drawn w w') : CutPost s w (.returned (.tuple #[.string t, .string r, .bool f])) w' := ⟨r, f, by rw [h], hw⟩
set_option maxRecDepth 100000 in
theorem cut_in (s : ByteArray) (w : World) (hs : s.size ≤ maxLen) : Calls Tryd.prog 59 #[.string s, .string ⟨#[35]⟩] w (CutPost s w) := by
  unfold maxLen at hs
  have hge := Lib.indexByte_ge s.data.toList 35
  have HC := Lib.hid (Tryd.stringslite_Index_one s 35 w)
  by_cases hneg : Lib.indexByte s.data.toList 35 < 0
  · have e1 : Lib.indexByte s.data.toList 35 = -1 := by omega
    have HT := Lib.hid (show s = tx s from WideShapes.bytes_inj (by rw [tx_list, pre_all 35 _ (Lib.indexByte_none e1)]))
    rw [e1] at HC
    clear e1 hge hneg
    go_enter Tryd.func59, Tryd.ntmps59
    go_wp2_with fail
    refine HC.out.mono ?_
    rintro e w' ⟨rfl, rfl⟩
    go_wp2
    go_ret3
    exact cut_mk HT.out (Drawn.refl _)
  · obtain ⟨o, ho⟩ : ∃ o : Nat, Lib.indexByte s.data.toList 35 = o := ⟨(Lib.indexByte s.data.toList 35).toNat, by omega⟩
    obtain ⟨hat, hlow⟩ := Lib.indexByte_some ho
    have hlt : o < s.size := by have := (List.getElem?_eq_some_iff.1 hat).1; simpa using this
    have HT := Lib.hid (show s.extract 0 o = tx s from WideShapes.bytes_inj (by rw [tx_list, pre_at 35 _ o hat hlow, Lib.extract_data]; simp))
    rw [ho] at HC
    have e1 : IntKind.i64.wrap ((o : Int) + 1) = (o : Int) + 1 := IntWalk.i64_in _ (by omega)
    have h1 : (o : Int) ≤ s.size := by omega
    have h2 : (o : Int) + 1 ≤ s.size := by omega
    have h3 : (0 : Int) ≤ (o : Int) + 1 := by omega
    clear hat hlow ho hneg hge
    go_enter Tryd.func59, Tryd.ntmps59
    go_wp2_with fail
    refine HC.out.mono ?_
    rintro e w' ⟨rfl, rfl⟩
    go_wp2
    go_quiet (fail)
    go_wp2
    go_ret3
    exact cut_mk HT.out (Drawn.n _ _)
theorem cut_any (s : ByteArray) (w : World) (hs : s.size ≤ maxLen) : Calls Tryd.prog 48 #[.string s, .string ⟨#[35]⟩] w (CutPost s w) := by
  have HC := Lib.hid (cut_in s w hs)
  go_enter Tryd.func48, Tryd.ntmps48
  go_wp2_with fail
  refine HC.out.mono ?_
  rintro e w' ⟨r, f, rfl, hD⟩
  have HD := Lib.hid hD; clear hD
  go_wp2
  go_ret3
  exact cut_mk rfl HD.out

set_option maxRecDepth 100000 in
set_option maxHeartbeats 1000000 in
theorem ver_impl (s : ByteArray) (w : World) (hs : s.size ≤ maxLen) (ht : Tab w) : Calls Tryd.prog 20 #[.string s] w (VPost s w) := by
  have HT := Lib.hid ht; clear ht
  have HS := Lib.hid hs; clear hs
  go_enter Tryd.func20, Tryd.ntmps20
  go_wp2_with fail
  refine (cut_any s w HS.out).mono ?_
  rintro e w1 ⟨r, f, rfl, hD⟩
  have HB1 := Lib.hid (hD.below w.heap.size); clear hD
  go_wp2_with fail
  refine (app_impl (tx s) w1 (by have := tx_size s; have := HS.out; omega) (HT.out.below HB1.out)).mono ?_
  rintro e w2 ⟨hh, hB2⟩
  have HB2 := Lib.hid (HB1.out.trans (hB2.mono HB1.out.size)); clear hB2
  rcases hh with ⟨hg, rfl⟩ | ⟨hg, rfl⟩
  · have HG := Lib.hid hg; clear hg
    have hz : (tx s).size ≤ 281474976710656 := by have := HG.out.1; omega
    generalize hT : tx s = T at *
    have HTX := Lib.hid hT; clear hT
    go_wp2_with (go_at_call 49; refine (clone_any _ _ hz).mono ?_; rintro e w3 ⟨rfl, hB3⟩)
    · have hh : (!((sealB T).toList == s.toList)) = true := by assumption
      go_ret2
      refine v_no (fun v => ?_) HB2.out
      have h2 := v.2
      rw [HTX.out] at h2
      exact str_ne_true hh h2
    · have hh : (!((sealB T).toList == s.toList)) = false := by assumption
      go_ret2
      have hv : V s := ⟨by rw [HTX.out]; exact HG.out, by rw [HTX.out]; exact str_ne_false hh⟩
      have := v_yes hv (HB2.out.trans (hB3.mono HB2.out.size))
      rw [HTX.out] at this
      exact this
  · have HN := Lib.hid (show ¬ V s from fun v => hg v.1); clear hg
    go_wp2
    go_ret2
    exact v_no HN.out HB2.out

set_option maxHeartbeats 1000000 in
theorem ver_law (s : ByteArray) (w : World) (hs : s.size ≤ maxLen) (ht : Tab w) : Calls Tryd.prog 9 #[.string s] w fun e w' => e = .returned (.bool true) ∧ Below w.heap.size w w' := by
  have HT := Lib.hid ht; clear ht
  have HS := Lib.hid hs
  unfold maxLen at hs
  go_enter Tryd.func9, Tryd.ntmps9
  by_cases hb : s.size ≤ 1048576
  · go_wp2_with fail
    refine (ver_spec s w HS.out).mono ?_
    rintro e w1 ⟨hh, hB1⟩
    have HB1 := Lib.hid hB1; clear hB1
    rcases hh with ⟨hr, rfl⟩ | ⟨hr, rfl⟩
    all_goals
      have HR := Lib.hid hr; clear hr
      go_wp2_with fail
      refine (ver_impl s w1 HS.out (HT.out.below HB1.out)).mono ?_
      rintro e w2 ⟨hh, hB2⟩
      have HB2 := Lib.hid (HB1.out.trans (hB2.mono HB1.out.size)); clear hB2
      rcases hh with ⟨hm, rfl⟩ | ⟨hm, rfl⟩
      all_goals first
        | (exfalso; exact HR.out hm)
        | (exfalso; exact hm HR.out)
        | (clear hm
           generalize tx s = Z
           go_wp2
           go_ret
           exact ⟨rfl, HB2.out⟩)
  · go_wp2
    go_ret
    exact ⟨rfl, Below.refl _ _⟩
end Go.Proofs.YtbjpkcclmoekiaaDoor.Verify
