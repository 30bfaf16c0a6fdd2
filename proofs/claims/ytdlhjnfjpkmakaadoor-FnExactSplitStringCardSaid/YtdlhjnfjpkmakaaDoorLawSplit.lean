/- The law on SplitString, walked. -/
import Derived.Test.YtdlhjnfjpkmakaaDoorImplSplit
import Derived.Test.YtdlhjnfjpkmakaaDoorSStr
import Derived.Test.YtdlhjnfjpkmakaaDoorKeep
namespace Go.Proofs.YtdlhjnfjpkmakaaDoor.LawSplit
open Go.RowKit Go.Proofs.YtdlhjnfjpkmakaaDoor.Mem Go.Proofs.YtdlhjnfjpkmakaaDoor.Bytes Go.Proofs.YtdlhjnfjpkmakaaDoor.Strs Go.Proofs.YtdlhjnfjpkmakaaDoor.Split Go.Proofs.YtdlhjnfjpkmakaaDoor.SplitIt Go.Proofs.YtdlhjnfjpkmakaaDoor.SStr Go.Proofs.YtdlhjnfjpkmakaaDoor.Keep
set_option linter.unusedVariables false
set_option maxRecDepth 100000
def Yes (w : World) (e : Ending) (w' : World) : Prop := e = .returned (.bool true) ∧ Below w.heap.size w w'
def MPost (M : List ByteArray) (q : Bool) (w : World) (e : Ending) (w' : World) : Prop :=
  ∃ (A : Option Addr) (c : Nat), e = .returned (.tuple #[.slice A M.length c, .bool q]) ∧ w'.ownsRow w.heap.size 9 1 (.slice A M.length c) M.length (strv M) ∧ Below w.heap.size w w'
theorem mnil (w : World) : MPost [] false w (.returned (.tuple #[.slice (some ⟨w.heap.size, 0, none⟩) 0 0, .bool false])) (w.alloc (.cells #[] 9)) :=
  ⟨_, _, rfl, World.ownsRow_lit w #[] 0 (Nat.le_refl _) (by unfold maxLen; omega) rfl, (Below.refl _ _).alloc (Nat.le_refl _) _⟩
theorem one_byte {s : ByteArray} (h : s.size = 1) : ∃ b, s = ⟨#[b]⟩ := by
  have h1 : s.data.size = 1 := h
  obtain ⟨b, hb⟩ := Array.size_eq_one_iff.1 h1
  exact ⟨b, by cases s; simp at hb; rw [hb]⟩
theorem list_inj : ∀ (x y : List ByteArray), listOf x = listOf y → x = y
  | [], [], _ => rfl
  | [], _ :: _, h => by simp [listOf] at h
  | _ :: _, [], h => by simp [listOf] at h
  | a :: x, b :: y, h => by
    simp only [listOf, List.map_cons, List.cons.injEq] at h
    rw [list_inj x y h.2]
    have : a = b := by
      have h1 := Array.toList_inj.1 h.1
      cases a; cases b; simp at h1; rw [h1]
    rw [this]
theorem spec_yes (s : ByteArray) (b : UInt8) (w : World) (hs : s.size ≤ 4000) : Calls Tryd.prog 14 #[.string s, .string ⟨#[b]⟩] w (MPost (parts b s) true w) := by
  have HS := Lib.hid (fun u => split_spec s b u (by omega))
  go_enter Tryd.func14, Tryd.ntmps14
  go_wp2_with (go_at_call 28; refine (HS.out _).mono ?_; rintro e w2 ⟨ss, A, c, rfl, hl, ho, hb⟩)
  go_ret2
  obtain rfl := list_inj _ _ (hl.trans (parts_list b s).symm)
  exact ⟨A, c, rfl, ho, hb⟩
theorem spec_no (s sep : ByteArray) (w : World) (h : ¬ (sep.size = 1 ∧ s.size ≤ 4000)) : Calls Tryd.prog 14 #[.string s, .string sep] w (MPost [] false w) := by
  by_cases h1 : sep.size = 1
  · have h2 : ((sep.size : Int) != 1) = false := by rw [h1]; rfl
    have h3 : 4000 < (s.size : Int) := by omega
    go_enter Tryd.func14, Tryd.ntmps14
    go_wp2
    go_ret2
    exact mnil w
  · have h2 : ((sep.size : Int) != 1) = true := by rw [bne_iff_ne]; omega
    go_enter Tryd.func14, Tryd.ntmps14
    go_wp2
    go_ret2
    exact mnil w
theorem impl_no (s sep : ByteArray) (w : World) (h : ¬ (sep.size = 1 ∧ s.size ≤ 4000)) : Calls Tryd.prog 7 #[.string s, .string sep] w (MPost [] false w) := by
  by_cases h1 : s.size ≤ 4000
  · have h2 : ((sep.size : Int) != 1) = true := by rw [bne_iff_ne]; omega
    have h3 : ¬ 4000 < (s.size : Int) := by omega
    go_enter Tryd.func7, Tryd.ntmps7
    go_wp2
    go_ret2
    exact mnil w
  · have h3 : 4000 < (s.size : Int) := by omega
    go_enter Tryd.func7, Tryd.ntmps7
    go_wp2
    go_ret2
    exact mnil w
theorem parts_len (b : UInt8) (s : ByteArray) : (parts b s).length ≤ s.size + 1 := by
  have h1 := ImplSplit.vals_len b s
  have h2 : Lib.countByte s.data.toList b ≤ s.data.toList.length := List.count_le_length
  have h3 : (vals b s).length = (parts b s).length := by simp [vals, strv]
  simp at h2
  omega
theorem impl_yes (s : ByteArray) (b : UInt8) (w : World) (hs : s.size ≤ 4000) : Calls Tryd.prog 7 #[.string s, .string ⟨#[b]⟩] w (MPost (parts b s) true w) :=
  (ImplSplit.impl_yes s b w hs).mono fun e w' ⟨A, c, h1, h2, h3⟩ => by
    have h : (vals b s).length = (parts b s).length := by simp [vals, strv]
    rw [h] at h1 h2
    exact ⟨A, c, h1, h2, h3⟩
theorem both (s sep : ByteArray) : ∃ (M : List ByteArray) (q : Bool), M.length ≤ 4001 ∧ (∀ w, Calls Tryd.prog 14 #[.string s, .string sep] w (MPost M q w)) ∧ (∀ w, Calls Tryd.prog 7 #[.string s, .string sep] w (MPost M q w)) := by
  by_cases h : sep.size = 1 ∧ s.size ≤ 4000
  · obtain ⟨b, rfl⟩ := one_byte h.1
    exact ⟨parts b s, true, by have := parts_len b s; omega, fun w => spec_yes s b w h.2, fun w => impl_yes s b w h.2⟩
  · exact ⟨[], false, by simp, fun w => spec_no s sep w h, fun w => impl_no s sep w h⟩

set_option maxHeartbeats 800000 in
theorem split_law (s sep : ByteArray) (w : World) : Calls Tryd.prog 4 #[.string s, .string sep] w (Yes w) := by
  by_cases h1 : 1048576 < s.size
  · have h1' : 1048576 < (s.size : Int) := by omega
    go_enter Tryd.func4, Tryd.ntmps4
    go_wp2
    go_ret
    exact ⟨rfl, Below.refl _ _⟩
  by_cases h2 : 1048576 < sep.size
  · have h1' : ¬ 1048576 < (s.size : Int) := by omega
    have h2' : 1048576 < (sep.size : Int) := by omega
    go_enter Tryd.func4, Tryd.ntmps4
    go_wp2
    go_ret
    exact ⟨rfl, Below.refl _ _⟩
  have h1' : ¬ 1048576 < (s.size : Int) := by omega
  have h2' : ¬ 1048576 < (sep.size : Int) := by omega
  obtain ⟨M, q, hm, hs, hi⟩ := both s sep
  unfold MPost at hs hi
  have HSP := Lib.hid hs; clear hs
  have HIM := Lib.hid hi; clear hi
  have HM := Lib.hid (show M.length ≤ maxLen by unfold maxLen; omega)
  go_enter Tryd.func4, Tryd.ntmps4
  go_wp2_with fail
  refine (HSP.out _).mono ?_
  rintro e v1 ⟨A0, c0, rfl, O0, hb2⟩
  have HB := hb2
  have RL := RdL.of (Rd.of_own O0)
  clear hb2 O0
  have hXB := HB.size
  go_wp2_with fail
  refine (HIM.out _).mono ?_
  rintro e v2 ⟨A1, c1, rfl, O1, hv2⟩
  replace HB := be HB hv2
  replace RL := rdl_keep RL hv2
  have zhv2 := hv2.size
  go_wp2_with fail
  refine (eqB A1 A0 c1 c0 M M _ (Rd.of_own O1) RL.rd HM.out HM.out).mono ?_
  rintro e v3 ⟨rfl, hv3⟩
  replace HB := be HB hv3
  replace RL := rdl_keep RL hv3
  replace O1 := own_keep O1 hv3
  have zhv3 := hv3.size
  rw [decide_eq_true rfl]
  go_wp2_with fail
  refine (mark1 A1 c1 v1.heap.size M _ O1 (by omega)).mono ?_
  rintro e v4 ⟨rfl, OM, hg⟩
  replace RL := RL.grown hg (fun k hk => by have := own_ge OM k hk; omega)
  replace HB := bl_grown HB hg (fun k hk => by have := own_ge OM k hk; omega)
  clear O1
  clear hg
  go_wp2_with fail
  refine (held1 A1 c1 M.length _ (Rd.of_own OM) (by omega)).mono ?_
  rintro e v5 ⟨rfl, hv5⟩
  replace HB := be HB hv5
  replace RL := rdl_keep RL hv5
  replace OM := own_keep OM hv5
  have zhv5 := hv5.size
  go_wp2_with fail
  refine (HIM.out _).mono ?_
  rintro e v6 ⟨A2, c2, rfl, O2, hv6⟩
  replace HB := be HB hv6
  replace RL := rdl_keep RL hv6
  replace OM := own_keep OM hv6
  have zhv6 := hv6.size
  go_wp2_with fail
  refine (eqB A2 A0 c2 c0 M M _ (Rd.of_own O2) RL.rd HM.out HM.out).mono ?_
  rintro e v7 ⟨rfl, hv7⟩
  replace HB := be HB hv7
  replace RL := rdl_keep RL hv7
  replace OM := own_keep OM hv7
  have zhv7 := hv7.size
  rw [decide_eq_true rfl]
  clear O2
  go_wp2_with fail
  refine (held1 A1 c1 M.length _ (Rd.of_own OM) (by omega)).mono ?_
  rintro e v8 ⟨rfl, hv8⟩
  replace HB := be HB hv8
  replace RL := rdl_keep RL hv8
  replace OM := own_keep OM hv8
  have zhv8 := hv8.size
  go_wp2
  go_ret
  exact ⟨rfl, HB⟩
end Go.Proofs.YtdlhjnfjpkmakaaDoor.LawSplit
