/- Checksummed texts: l1Seal, AppendChecksum, VerifyChecksum, of the model and of the program. -/
import Derived.Test.YtbjpkcclmoekiaaDoorParse
import Derived.Test.YtbjpkcclmoekiaaDoorBytes
import Derived.Test.YtbjpkcclmoekiaaDoorSum
namespace Go.Proofs.YtbjpkcclmoekiaaDoor.Seal
open Go.RowKit Go.Proofs.YtbjpkcclmoekiaaDoor.Mem Go.Proofs.YtbjpkcclmoekiaaDoor.Base Go.Proofs.YtbjpkcclmoekiaaDoor.Num Go.Proofs.YtbjpkcclmoekiaaDoor.Bytes Go.Proofs.YtbjpkcclmoekiaaDoor.Sum
set_option linter.unusedVariables false

def sealL (l : List UInt8) : List UInt8 := l ++ 35 :: Lib.itoa (sum l)
theorem sum_itoa_len (l : List UInt8) : (Lib.itoa (sum l)).length ≤ 6 := by
  obtain ⟨h0, h1⟩ := sum_range l
  rw [Lib.itoa, if_neg (by omega)]
  exact Parse.dec_le 5 _ (by omega)
def sealB (s : ByteArray) : ByteArray := ⟨(sealL s.data.toList).toArray⟩
theorem sealB_list (s : ByteArray) : (sealB s).data.toList = sealL s.data.toList := by simp [sealB]
theorem sealB_size (s : ByteArray) : (sealB s).size = s.size + 1 + (Lib.itoa (sum s.data.toList)).length := by
  show (List.toArray _).size = _
  rw [List.size_toArray, sealL, List.length_append, List.length_cons]
  simp; omega
theorem sealB_eq (s R : ByteArray) (h : R.data.toList = Lib.itoa (sum s.data.toList)) : s ++ ⟨#[35]⟩ ++ R = sealB s := by
  apply WideShapes.bytes_inj
  rw [sealB_list, sealL, ← h]
  simp

set_option maxRecDepth 100000 in
theorem seal_spec (s : ByteArray) (w : World) (hs : s.size ≤ 1048576) : Calls Tryd.prog 47 #[.string s] w fun e w' => e = .returned (.string (sealB s)) ∧ Drawn w w' := by
  obtain ⟨h0, h1⟩ := sum_range s.data.toList
  have hl := sum_itoa_len s.data.toList
  have HS := Lib.hid (l1Sum_any s w (by unfold maxLen; omega))
  have HN := Lib.hid (num_any (sum s.data.toList) (by omega) (by omega))
  obtain ⟨R, hR⟩ : ∃ R : ByteArray, R = ⟨(Lib.itoa (sum s.data.toList)).toArray⟩ := ⟨_, rfl⟩
  have hRs : R.size ≤ 6 := by rw [hR]; show (List.toArray _).size ≤ _; rw [List.size_toArray]; exact hl
  have HE := Lib.hid (sealB_eq s R (by rw [hR]))
  have HR := Lib.hid hR; clear hR hl
  go_enter Tryd.func47, Tryd.ntmps47
  go_wp2_with fail
  refine HS.out.mono ?_
  rintro e w' ⟨rfl, rfl⟩
  go_wp2_with fail
  refine (HN.out _).mono ?_
  rintro e w' ⟨rfl, q, rfl⟩
  rw [← HR.out]
  go_wp2
  go_ret
  exact ⟨by rw [← HE.out]; simp, Drawn.n _ _⟩

/-! ### AppendChecksum -/
def goodS (s : ByteArray) : Prop := s.size ≤ 4000 ∧ (35 : UInt8) ∉ s.data.toList ∧ (sealB s).size ≤ 4000
def APost (s : ByteArray) (w : World) (e : Ending) (w' : World) : Prop :=
  ((goodS s ∧ e = .returned (.tuple #[.string (sealB s), .bool true])) ∨ (¬ goodS s ∧ e = .returned (.tuple #[.string ⟨#[]⟩, .bool false]))) ∧ Below w.heap.size w w'
theorem a_yes {s : ByteArray} {w w' : World} (h : goodS s) (hw : Below w.heap.size w w') : APost s w (.returned (.tuple #[.string (sealB s), .bool true])) w' := ⟨.inl ⟨h, rfl⟩, hw⟩
theorem a_no {s : ByteArray} {w w' : World} (h : ¬ goodS s) (hw : Below w.heap.size w w') : APost s w (.returned (.tuple #[.string ⟨#[]⟩, .bool false])) w' := ⟨.inr ⟨h, rfl⟩, hw⟩

set_option maxRecDepth 100000 in
set_option maxHeartbeats 1000000 in
theorem app_spec (s : ByteArray) (w : World) (hs : s.size ≤ maxLen) : Calls Tryd.prog 19 #[.string s] w (APost s w) := by
  unfold maxLen at hs
  by_cases h1 : s.size ≤ 4000
  · have HH := Lib.hid (stands35 s w (by unfold maxLen; omega))
    have HS := Lib.hid (fun W => seal_spec s W (by omega))
    by_cases h2 : (35 : UInt8) ∈ s.data.toList
    · have hb := has_true h2
      have HG := Lib.hid (show ¬ goodS s from fun g => g.2.1 h2); clear h2
      go_enter Tryd.func19, Tryd.ntmps19
      go_wp2_with fail
      refine HH.out.mono ?_
      rintro e w' ⟨rfl, rfl⟩
      go_wp2
      go_ret2
      exact a_no HG.out (Below.refl _ _)
    · have hb := has_false h2
      have H2 := Lib.hid h2; clear h2
      have hz : (sealB s).size ≤ 5000 := by rw [sealB_size]; have := sum_itoa_len s.data.toList; omega
      by_cases h3 : (sealB s).size ≤ 4000
      · have HG := Lib.hid (show goodS s from ⟨h1, H2.out, h3⟩)
        generalize hZ : sealB s = Z at *
        have HZ := Lib.hid hZ; clear hZ
        go_enter Tryd.func19, Tryd.ntmps19
        go_wp2_with fail
        refine HH.out.mono ?_
        rintro e w' ⟨rfl, rfl⟩
        go_wp2_with fail
        refine (HS.out _).mono ?_
        rintro e w1 ⟨rfl, hD1⟩
        have HD1 := Lib.hid hD1; clear hD1
        go_wp2_with fail
        refine (HS.out _).mono ?_
        rintro e w2 ⟨rfl, hD2⟩
        have HD2 := Lib.hid (HD1.out.trans hD2); clear hD2
        go_wp2
        go_ret2
        have := a_yes HG.out (HD2.out.below w.heap.size)
        rw [HZ.out] at this
        exact this
      · have HG := Lib.hid (show ¬ goodS s from fun g => h3 g.2.2)
        generalize sealB s = Z at *
        go_enter Tryd.func19, Tryd.ntmps19
        go_wp2_with fail
        refine HH.out.mono ?_
        rintro e w' ⟨rfl, rfl⟩
        go_wp2_with fail
        refine (HS.out _).mono ?_
        rintro e w1 ⟨rfl, hD1⟩
        have HD1 := Lib.hid hD1; clear hD1
        go_wp2
        go_ret2
        exact a_no HG.out (HD1.out.below w.heap.size)
  · have HG := Lib.hid (show ¬ goodS s from fun g => h1 g.1)
    go_enter Tryd.func19, Tryd.ntmps19
    go_wp2
    go_ret2
    exact a_no HG.out (Below.refl _ _)

set_option maxRecDepth 100000 in
set_option maxHeartbeats 1000000 in
theorem app_impl (s : ByteArray) (w : World) (hs : s.size ≤ maxLen) (ht : Tab w) : Calls Tryd.prog 18 #[.string s] w (APost s w) := by
  have HS := Lib.hid (implSum_any s w hs)
  have HT := Lib.hid ht; clear ht
  unfold maxLen at hs
  by_cases h1 : s.size ≤ 4000
  · have HR := Lib.hid (show res s.data.toList = .tuple #[.int .i64 (sum s.data.toList), .bool true] by unfold res; rw [if_pos (by simpa using h1)])
    have HC := Lib.hid (contains_any s 35 w)
    by_cases h2 : (35 : UInt8) ∈ s.data.toList
    · have hb := has_true h2
      have HG := Lib.hid (show ¬ goodS s from fun g => g.2.1 h2); clear h2
      go_enter Tryd.func18, Tryd.ntmps18
      go_wp2_with fail
      refine HS.out.mono ?_
      rintro e w' ⟨rfl, rfl⟩
      rw [HR.out]
      go_wp2_with fail
      refine HC.out.mono ?_
      rintro e w' ⟨rfl, rfl⟩
      go_wp2
      go_ret2
      exact a_no HG.out (Below.refl _ _)
    · have hb := has_false h2
      have H2 := Lib.hid h2; clear h2
      obtain ⟨h0, h01⟩ := sum_range s.data.toList
      have HI := Lib.hid (itoa_any (sum s.data.toList) (by omega) (by omega) w HT.out)
      have hz : (sealB s).size ≤ 5000 := by rw [sealB_size]; have := sum_itoa_len s.data.toList; omega
      obtain ⟨R, hR⟩ : ∃ R : ByteArray, R = ⟨(Lib.itoa (sum s.data.toList)).toArray⟩ := ⟨_, rfl⟩
      have hRs : R.size ≤ 6 := by rw [hR]; show (List.toArray _).size ≤ _; rw [List.size_toArray]; exact sum_itoa_len _
      have HE := Lib.hid (sealB_eq s R (by rw [hR]))
      have hRz : (s.size : Int) + 1 + R.size = (sealB s).size := by
        rw [← HE.out]; simp [ByteArray.size_append]; rfl
      have HRR := Lib.hid hR; clear hR
      by_cases h3 : (sealB s).size ≤ 4000
      · have HG := Lib.hid (show goodS s from ⟨h1, H2.out, h3⟩)
        have h4 : (s.size : Int) + 1 + R.size ≤ 4000 := by omega
        clear hRz h3 hz
        go_enter Tryd.func18, Tryd.ntmps18
        go_wp2_with fail
        refine HS.out.mono ?_
        rintro e w' ⟨rfl, rfl⟩
        rw [HR.out]
        go_wp2_with fail
        refine HC.out.mono ?_
        rintro e w' ⟨rfl, rfl⟩
        go_wp2_with fail
        refine HI.out.mono ?_
        rintro e w1 ⟨rfl, hB1⟩
        rw [← HRR.out]
        have HB1 := Lib.hid hB1; clear hB1
        go_wp2
        go_ret2
        have := a_yes HG.out HB1.out
        rw [← HE.out] at this
        exact this
      · have HG := Lib.hid (show ¬ goodS s from fun g => h3 g.2.2)
        have h4 : (4000 : Int) < (s.size : Int) + 1 + R.size := by omega
        clear hRz h3 hz
        go_enter Tryd.func18, Tryd.ntmps18
        go_wp2_with fail
        refine HS.out.mono ?_
        rintro e w' ⟨rfl, rfl⟩
        rw [HR.out]
        go_wp2_with fail
        refine HC.out.mono ?_
        rintro e w' ⟨rfl, rfl⟩
        go_wp2_with fail
        refine HI.out.mono ?_
        rintro e w1 ⟨rfl, hB1⟩
        rw [← HRR.out]
        have HB1 := Lib.hid hB1; clear hB1
        go_wp2
        go_ret2
        exact a_no HG.out HB1.out
  · have HR := Lib.hid (show res s.data.toList = .tuple #[.int .i64 0, .bool false] by unfold res; rw [if_neg (by simpa using h1)])
    have HG := Lib.hid (show ¬ goodS s from fun g => h1 g.1)
    go_enter Tryd.func18, Tryd.ntmps18
    go_wp2_with fail
    refine HS.out.mono ?_
    rintro e w' ⟨rfl, rfl⟩
    rw [HR.out]
    go_wp2
    go_ret2
    exact a_no HG.out (Below.refl _ _)

set_option maxHeartbeats 1000000 in
theorem app_law (s : ByteArray) (w : World) (hs : s.size ≤ maxLen) (ht : Tab w) : Calls Tryd.prog 8 #[.string s] w fun e w' => e = .returned (.bool true) ∧ Below w.heap.size w w' := by
  have HT := Lib.hid ht; clear ht
  have HS := Lib.hid hs
  unfold maxLen at hs
  go_enter Tryd.func8, Tryd.ntmps8
  by_cases hb : s.size ≤ 1048576
  · go_wp2_with fail
    refine (app_spec s w HS.out).mono ?_
    rintro e w1 ⟨hh, hB1⟩
    have HB1 := Lib.hid hB1; clear hB1
    rcases hh with ⟨hr, rfl⟩ | ⟨hr, rfl⟩
    all_goals
      have HR := Lib.hid hr; clear hr
      go_wp2_with fail
      refine (app_impl s w1 HS.out (HT.out.below HB1.out)).mono ?_
      rintro e w2 ⟨hh, hB2⟩
      have HB2 := Lib.hid (HB1.out.trans (hB2.mono HB1.out.size)); clear hB2
      rcases hh with ⟨hm, rfl⟩ | ⟨hm, rfl⟩
      all_goals first
        | (exfalso; exact HR.out hm)
        | (exfalso; exact hm HR.out)
        | (clear hm
           generalize sealB s = Z
           go_wp2
           go_ret
           exact ⟨rfl, HB2.out⟩)
  · go_wp2
    go_ret
    exact ⟨rfl, Below.refl _ _⟩
end Go.Proofs.YtbjpkcclmoekiaaDoor.Seal
