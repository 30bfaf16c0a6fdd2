/- Bytes in strings: the model's l1Stands, the library's Contains at one byte, Clone. -/
import Derived.Test.YtpblkkfafmcnpaaDoorMem
import Derived.Test.YtpblkkfafmcnpaaDoorShelf
import Derived.Lib.IndexLaws
namespace Go.Proofs.YtpblkkfafmcnpaaDoor.Bytes
open Go.RowKit Go.Proofs.YtpblkkfafmcnpaaDoor.Mem
set_option linter.unusedVariables false

def has (s : ByteArray) (c : UInt8) : Bool := decide (c ∈ s.data.toList)
theorem has_true {s : ByteArray} {c : UInt8} (h : c ∈ s.data.toList) : has s c = true := decide_eq_true h
theorem has_false {s : ByteArray} {c : UInt8} (h : c ∉ s.data.toList) : has s c = false := decide_eq_false h

theorem byte_eq {a c : UInt8} (h : (((a.toNat : Nat) : Int) == ((c.toNat : Nat) : Int)) = true) : a = c := by
  have : ((a.toNat : Nat) : Int) = c.toNat := by simpa using h
  exact UInt8.toNat_inj.1 (by omega)
theorem byte_ne {a c : UInt8} (h : (((a.toNat : Nat) : Int) == ((c.toNat : Nat) : Int)) = false) : a ≠ c := by
  rintro rfl; simp at h
theorem mem_at (s : ByteArray) (k : Nat) (h : k < s.size) : s[k] ∈ s.data.toList := by
  have : s[k] = s.data.toList[k]'(by simpa using h) := rfl
  rw [this]; exact List.getElem_mem _
theorem take_snoc (s : ByteArray) (k : Nat) (h : k < s.size) : s.data.toList.take (k + 1) = s.data.toList.take k ++ [s[k]] := by
  rw [List.take_succ_eq_append_getElem (by simpa using h)]; rfl
theorem stands_no {s : ByteArray} {c : UInt8} {k : Nat} (h : k < s.size) (hn : c ∉ s.data.toList.take k) (hc : s[k] ≠ c) : c ∉ s.data.toList.take (k + 1) := by
  rw [take_snoc s k h]
  simp only [List.mem_append, List.mem_singleton, not_or]
  exact ⟨hn, fun e => hc e.symm⟩
def StPost (s : ByteArray) (c : UInt8) (w : World) (e : Ending) (w' : World) : Prop := e = .returned (.bool (decide (c ∈ s.data.toList))) ∧ w = w'
theorem st_yes {s : ByteArray} {c : UInt8} {w : World} (h : c ∈ s.data.toList) : StPost s c w (.returned (.bool true)) w := ⟨by rw [decide_eq_true h], rfl⟩
theorem st_no {s : ByteArray} {c : UInt8} {w : World} (h : c ∉ s.data.toList) : StPost s c w (.returned (.bool false)) w := ⟨by rw [decide_eq_false h], rfl⟩

theorem index_mem (l : List UInt8) (c : UInt8) : decide (0 ≤ Lib.indexByte l c) = decide (c ∈ l) := by
  apply decide_eq_decide.2
  have hge := Lib.indexByte_ge l c
  constructor
  · intro h
    obtain ⟨o, ho⟩ : ∃ o : Nat, Lib.indexByte l c = o := ⟨(Lib.indexByte l c).toNat, by omega⟩
    exact List.mem_of_getElem? (Lib.indexByte_some ho).1
  · intro h
    rcases Int.lt_or_le (Lib.indexByte l c) 0 with hn | hn
    · have h1 : Lib.indexByte l c = -1 := by omega
      obtain ⟨k, hk⟩ := List.getElem?_of_mem h
      exact absurd hk (Lib.indexByte_none h1 k)
    · exact hn
end Go.Proofs.YtpblkkfafmcnpaaDoor.Bytes
