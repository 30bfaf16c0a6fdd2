/- Bytes in strings: the model's l1Stands, the library's Contains at one byte, Clone. -/
import Derived.Test.YtggloekjjnhhjaaDoorMem
import Derived.Test.YtggloekjjnhhjaaDoorShelf
import Derived.Lib.IndexLaws
namespace Go.Proofs.YtggloekjjnhhjaaDoor.Bytes
open Go.RowKit Go.Proofs.YtggloekjjnhhjaaDoor.Mem
set_option linter.unusedVariables false

def has (s : ByteArray) (c : UInt8) : Bool := decide (c ∈ s.data.toList)
theorem has_true {s : ByteArray} {c : UInt8} (h : c ∈ s.data.toList) : has s c = true := decide_eq_true h
theorem has_false {s : ByteArray} {c : UInt8} (h : c ∉ s.data.toList) : has s c = false := decide_eq_false h

theorem byte_eq {a c : UInt8} (h : (((a.toNat : Nat) : Int) == ((c.toNat : Nat) : Int)) = true) : a = c := by
  have : ((a.toNat : Nat) : Int) = c.toNat := by simpa using h
  exact UInt8.toNat_inj.1 (by omega)
theorem byte_ne {a c : UInt8} (h : (((a.toNat : Nat) : Int) == ((c.toNat : Nat) : Int)) = false) : a ≠ c := by
  rintro rfl; simp at h
theorem mem_at (s : ByteArray) (k : Nat) (h : k < s.size) : s[k] ∈ s.data.toList := by
  have : s[k] = s.data.toList[k]'(by simpa using h) := rfl
  rw [this]; exact List.getElem_mem _
theorem take_snoc (s : ByteArray) (k : Nat) (h : k < s.size) : s.data.toList.take (k + 1) = s.data.toList.take k ++ [s[k]] := by
  rw [List.take_succ_eq_append_getElem (by simpa using h)]; rfl
theorem stands_no {s : ByteArray} {c : UInt8} {k : Nat} (h : k < s.size) (hn : c ∉ s.data.toList.take k) (hc : s[k] ≠ c) : c ∉ s.data.toList.take (k + 1) := by
  rw [take_snoc s k h]
  simp only [List.mem_append, List.mem_singleton, not_or]
  exact ⟨hn, fun e => hc e.symm⟩
def StPost (s : ByteArray) (c : UInt8) (w : World) (e : Ending) (w' : World) : Prop := e = .returned (.bool (decide (c ∈ s.data.toList))) ∧ w = w'
theorem st_yes {s : ByteArray} {c : UInt8} {w : World} (h : c ∈ s.data.toList) : StPost s c w (.returned (.bool true)) w := ⟨by rw [decide_eq_true h], rfl⟩
theorem st_no {s : ByteArray} {c : UInt8} {w : World} (h : c ∉ s.data.toList) : StPost s c w (.returned (.bool false)) w := ⟨by rw [decide_eq_false h], rfl⟩
theorem stands_any (s : ByteArray) (c : UInt8) (w : World) (hs : s.size ≤ maxLen) :
    Calls Tryd.prog 22 #[.string s, .int .u8 (c.toNat : Int)] w (StPost s c w) := by
  unfold maxLen at hs
  have hcb := c.toNat_lt
  go_enter Tryd.func22, Tryd.ntmps22
  go_wp2
  go_loop [5] (fun i => ∃ k : Nat, k ≤ s.size ∧ i = .int .i64 k ∧ c ∉ s.data.toList.take k) (fun i => s.size - (intOf i).toNat)
  case atStart => exact ⟨0, Nat.zero_le _, rfl, by simp⟩
  case round =>
    obtain ⟨k, hk, rfl, hn⟩ := hrel
    have HN := Lib.hid hn; clear hn
    by_cases hlt : k < s.size
    · have hb := s[k].toNat_lt
      go_wp2
      · have hh : ((s[k].toNat : Int) == c.toNat) = true := by assumption
        go_ret
        exact st_yes (byte_eq hh ▸ mem_at s k hlt)
      · have hh : ((s[k].toNat : Int) == c.toNat) = false := by assumption
        exact ⟨⟨k + 1, by omega, by go_num, stands_no hlt HN.out (byte_ne hh)⟩, by simp [intOf]; omega⟩
    · go_wp2
      go_ret
      exact st_no (by have := HN.out; rwa [List.take_of_length_le (by simp; omega)] at this)


theorem stands_q (s : ByteArray) (c : UInt8) (w : World) (hs : s.size ≤ maxLen) :
    Calls Tryd.prog 22 #[.string s, .int .u8 (c.toNat : Int)] w fun e w' => e = .returned (.bool (decide (c ∈ s.data.toList))) ∧ w' = w :=
  (stands_any s c w hs).mono fun _ _ h => ⟨h.1, h.2.symm⟩

theorem index_mem (l : List UInt8) (c : UInt8) : decide (0 ≤ Lib.indexByte l c) = decide (c ∈ l) := by
  apply decide_eq_decide.2
  have hge := Lib.indexByte_ge l c
  constructor
  · intro h
    obtain ⟨o, ho⟩ : ∃ o : Nat, Lib.indexByte l c = o := ⟨(Lib.indexByte l c).toNat, by omega⟩
    exact List.mem_of_getElem? (Lib.indexByte_some ho).1
  · intro h
    rcases Int.lt_or_le (Lib.indexByte l c) 0 with hn | hn
    · have h1 : Lib.indexByte l c = -1 := by omega
      obtain ⟨k, hk⟩ := List.getElem?_of_mem h
      exact absurd hk (Lib.indexByte_none h1 k)
    · exact hn
theorem contains_any (s : ByteArray) (c : UInt8) (w : World) :
    Calls Tryd.prog 20 #[.string s, .string ⟨#[c]⟩] w fun e w' => e = .returned (.bool (has s c)) ∧ w = w' :=
  (Tryd.strings_Contains_one s c w).mono fun _ _ h => ⟨by rw [h.1, index_mem, has], h.2.symm⟩
theorem clone_any (s : ByteArray) (w : World) (hs : s.size ≤ 281474976710656) :
    Calls Tryd.prog 17 #[.string s] w fun e w' => e = .returned (.string s) ∧ Below w.heap.size w w' := by
  go_enter Tryd.func17, Tryd.ntmps17
  go_wp2_with (go_at_call 27; refine (Tryd.stringslite_Clone _ _ hs).mono ?_; rintro e w' ⟨rfl, hb⟩)
  go_ret
  exact ⟨rfl, hb⟩
theorem stands35 (s : ByteArray) (w : World) (hs : s.size ≤ maxLen) :
    Calls Tryd.prog 22 #[.string s, .int .u8 35] w fun e w' => e = .returned (.bool (has s 35)) ∧ w = w' :=
  (stands_any s 35 w hs).mono fun _ _ h => h
end Go.Proofs.YtggloekjjnhhjaaDoor.Bytes
