/- The law on SplitString, walked. -/
import Derived.Test.YtggloekjjnhhjaaDoorImplSplit
import Derived.Test.YtggloekjjnhhjaaDoorKeep
namespace Go.Proofs.YtggloekjjnhhjaaDoor.LawSplit
open Go.RowKit Go.Proofs.YtggloekjjnhhjaaDoor.Mem Go.Proofs.YtggloekjjnhhjaaDoor.Bytes Go.Proofs.YtggloekjjnhhjaaDoor.Strs Go.Proofs.YtggloekjjnhhjaaDoor.Split Go.Proofs.YtggloekjjnhhjaaDoor.SplitIt Go.Proofs.YtggloekjjnhhjaaDoor.Keep
set_option linter.unusedVariables false
set_option maxRecDepth 100000
def Yes (w : World) (e : Ending) (w' : World) : Prop := e = .returned (.bool true) ∧ Below w.heap.size w w'
def MPost (M : List ByteArray) (q : Bool) (w : World) (e : Ending) (w' : World) : Prop :=
  ∃ (A : Option Addr) (c : Nat), e = .returned (.tuple #[.slice A M.length c, .bool q]) ∧ w'.ownsRow w.heap.size 9 1 (.slice A M.length c) M.length (strv M) ∧ Below w.heap.size w w'
theorem mnil (w : World) : MPost [] false w (.returned (.tuple #[.slice (some ⟨w.heap.size, 0, none⟩) 0 0, .bool false])) (w.alloc (.cells #[] 9)) :=
  ⟨_, _, rfl, World.ownsRow_lit w #[] 0 (Nat.le_refl _) (by unfold maxLen; omega) rfl, (Below.refl _ _).alloc (Nat.le_refl _) _⟩
theorem one_byte {s : ByteArray} (h : s.size = 1) : ∃ b, s = ⟨#[b]⟩ := by
  have h1 : s.data.size = 1 := h
  obtain ⟨b, hb⟩ := Array.size_eq_one_iff.1 h1
  exact ⟨b, by cases s; simp at hb; rw [hb]⟩
theorem list_inj : ∀ (x y : List ByteArray), listOf x = listOf y → x = y
  | [], [], _ => rfl
  | [], _ :: _, h => by simp [listOf] at h
  | _ :: _, [], h => by simp [listOf] at h
  | a :: x, b :: y, h => by
    simp only [listOf, List.map_cons, List.cons.injEq] at h
    rw [list_inj x y h.2]
    have : a = b := by
      have h1 := Array.toList_inj.1 h.1
      cases a; cases b; simp at h1; rw [h1]
    rw [this]
theorem impl_no (s sep : ByteArray) (w : World) (h : ¬ (sep.size = 1 ∧ s.size ≤ 4000)) : Calls Tryd.prog 6 #[.string s, .string sep] w (MPost [] false w) := by
  by_cases h1 : s.size ≤ 4000
  · have h2 : ((sep.size : Int) != 1) = true := by rw [bne_iff_ne]; omega
    have h3 : ¬ 4000 < (s.size : Int) := by omega
    go_enter Tryd.func6, Tryd.ntmps6
    go_wp2
    go_ret2
    exact mnil w
  · have h3 : 4000 < (s.size : Int) := by omega
    go_enter Tryd.func6, Tryd.ntmps6
    go_wp2
    go_ret2
    exact mnil w
theorem parts_len (b : UInt8) (s : ByteArray) : (parts b s).length ≤ s.size + 1 := by
  have h1 := ImplSplit.vals_len b s
  have h2 : Lib.countByte s.data.toList b ≤ s.data.toList.length := List.count_le_length
  have h3 : (vals b s).length = (parts b s).length := by simp [vals, strv]
  simp at h2
  omega
theorem impl_yes (s : ByteArray) (b : UInt8) (w : World) (hs : s.size ≤ 4000) : Calls Tryd.prog 6 #[.string s, .string ⟨#[b]⟩] w (MPost (parts b s) true w) :=
  (ImplSplit.impl_yes s b w hs).mono fun e w' ⟨A, c, h1, h2, h3⟩ => by
    have h : (vals b s).length = (parts b s).length := by simp [vals, strv]
    rw [h] at h1 h2
    exact ⟨A, c, h1, h2, h3⟩
end Go.Proofs.YtggloekjjnhhjaaDoor.LawSplit
