/- Contracts of the two checksums and the exact law of Checksum. -/
import Derived.Test.YtbjpkcclmoekiaaDoorRows
import Derived.WalkKit
import Derived.ProofKit
import Derived.OpenShut
import Derived.ShutString
import Derived.Lib.Hide
namespace Go.Proofs.YtbjpkcclmoekiaaDoor.Sum
open Go.RowKit

def step (h : Int) (c : UInt8) : Int := (41 * h + (c.toNat : Int) + 1) % 999979
def sum (l : List UInt8) : Int := l.foldl step 7
theorem step_range (h : Int) (c : UInt8) : 0 ≤ step h c ∧ step h c < 999979 := by
  unfold step; omega
theorem sum_range (l : List UInt8) : 0 ≤ sum l ∧ sum l < 999979 := by
  have : ∀ (l : List UInt8) (h : Int), (0 ≤ h ∧ h < 999979) → 0 ≤ l.foldl step h ∧ l.foldl step h < 999979 := by
    intro l; induction l with
    | nil => intro h hh; exact hh
    | cons c l ih => intro h _; exact ih _ (step_range h c)
  exact this l 7 (by omega)
theorem take_snoc (s : ByteArray) (k : Nat) (h : k < s.size) : s.data.toList.take (k + 1) = s.data.toList.take k ++ [s[k]] := by
  rw [List.take_succ_eq_append_getElem (by simpa using h)]; rfl
theorem sum_snoc (s : ByteArray) (k : Nat) (h : k < s.size) : sum (s.data.toList.take (k + 1)) = (41 * sum (s.data.toList.take k) + (s[k].toNat : Int) + 1) % 999979 := by
  rw [take_snoc s k h]; simp [sum, step]

set_option maxHeartbeats 400000 in
theorem l1Sum_any (s : ByteArray) (w : World) (hs : s.size ≤ maxLen) :
    Calls Tryd.prog 58 #[.string s] w fun e w' => e = .returned (.int .i64 (sum s.data.toList)) ∧ w = w' := by
  unfold maxLen at hs
  go_enter Tryd.func58, Tryd.ntmps58
  go_wp2
  go_loop [3, 4] (fun h i => ∃ k : Nat, k ≤ s.size ∧ i = .int .i64 k ∧ h = .int .i64 (sum (s.data.toList.take k))) (fun _ i => s.size - (intOf i).toNat)
  case atStart => exact ⟨0, Nat.zero_le _, rfl, rfl⟩
  case round =>
    obtain ⟨k, hk, rfl, rfl⟩ := hrel
    obtain ⟨hr1, hr2⟩ := sum_range (s.data.toList.take k)
    by_cases hlt : k < s.size
    · have HS := Lib.hid (sum_snoc s k hlt)
      have hb := s[k].toNat_lt
      go_wp2
      go_round
      case rel => exact ⟨k + 1, by omega, by go_num, by rw [HS.out]⟩
      case measure => simp [intOf]; omega
    · go_wp2
      go_ret
      exact ⟨by simp [List.take_of_length_le (show s.data.toList.length ≤ k by simp; omega)], rfl⟩


def res (l : List UInt8) : Value := if l.length ≤ 4000 then .tuple #[.int .i64 (sum l), .bool true] else .tuple #[.int .i64 0, .bool false]

set_option maxHeartbeats 400000 in
theorem implSum_any (s : ByteArray) (w : World) (hs : s.size ≤ maxLen) :
    Calls Tryd.prog 44 #[.string s] w fun e w' => e = .returned (res s.data.toList) ∧ w = w' := by
  unfold maxLen at hs
  by_cases h : s.size ≤ 4000
  · have hr : res s.data.toList = .tuple #[.int .i64 (sum s.data.toList), .bool true] := by unfold res; rw [if_pos (by simpa using h)]
    have HR := Lib.hid hr; clear hr
    go_enter Tryd.func44, Tryd.ntmps44
    go_wp2
    go_loop [4, 11] (fun h i => ∃ k : Nat, k ≤ s.size ∧ i = .int .i64 k ∧ h = .int .i64 (sum (s.data.toList.take k))) (fun _ i => s.size - (intOf i).toNat)
    case atStart => exact ⟨0, Nat.zero_le _, rfl, rfl⟩
    case round =>
      obtain ⟨k, hk, rfl, rfl⟩ := hrel
      obtain ⟨hr1, hr2⟩ := sum_range (s.data.toList.take k)
      by_cases hlt : k < s.size
      · have HS := Lib.hid (sum_snoc s k hlt)
        have hb := s[k].toNat_lt
        go_wp2
        go_round
        case rel => exact ⟨k + 1, by omega, by go_num, by rw [HS.out]⟩
        case measure => simp [intOf]; omega
      · go_wp2
        go_ret2
        exact ⟨by rw [HR.out]; simp [List.take_of_length_le (show s.data.toList.length ≤ k by simp; omega)], rfl⟩
  · have hr : res s.data.toList = .tuple #[.int .i64 0, .bool false] := by unfold res; rw [if_neg (by simpa using h)]
    have HR := Lib.hid hr; clear hr
    go_enter Tryd.func44, Tryd.ntmps44
    go_wp2
    go_ret2
    exact ⟨by rw [HR.out]; simp, rfl⟩

end Go.Proofs.YtbjpkcclmoekiaaDoor.Sum
