/- Words on digits for readers of numbers. -/
import Derived.Test.YtpblkkfafmcnpaaDoorParse
namespace Go.Proofs.YtpblkkfafmcnpaaDoor.Parse
open Go.RowKit Go.Proofs.YtpblkkfafmcnpaaDoor.Mem Go.Proofs.YtpblkkfafmcnpaaDoor.Base Go.Proofs.YtpblkkfafmcnpaaDoor.Num
set_option linter.unusedVariables false
theorem read_dig {t : ByteArray} {k n : Nat} (h : k < t.size) (hl : t.data.toList = Lib.decDigits n) : dig t[k] :=
  dec_dig n _ (List.mem_of_getElem? (at_list t k h _ hl))
theorem scan_step {t : ByteArray} {k nv : Nat} (h : k < t.size) (hv : nv = val (t.data.toList.take k)) (ha : ∀ c ∈ t.data.toList.take k, dig c) (hd : dig t[k]) :
    10 * nv + (t[k].toNat - 48) = val (t.data.toList.take (k + 1)) ∧ ∀ c ∈ t.data.toList.take (k + 1), dig c := by
  have e := List.take_succ_eq_append_getElem (l := t.data.toList) (i := k) (by simpa using h)
  have e2 : t.data.toList[k]'(by simpa using h) = t[k] := rfl
  rw [e, e2, val_snoc, hv]
  refine ⟨rfl, fun c hc => ?_⟩
  rcases List.mem_append.1 hc with hc | hc
  · exact ha c hc
  · rw [List.mem_singleton.1 hc]; exact hd
theorem scan_le {t : ByteArray} {k n : Nat} (h : k < t.size) (h6 : t.size ≤ 6) (hv : n = val (t.data.toList.take (k + 1))) (ha : ∀ c ∈ t.data.toList.take (k + 1), dig c) : n ≤ 999999 := by
  have h1 := val_lt _ ha
  have h2 : (t.data.toList.take (k + 1)).length ≤ 6 := by simp; omega
  have h3 : 10 ^ (t.data.toList.take (k + 1)).length ≤ 10 ^ 6 := Nat.pow_le_pow_right (by omega) h2
  omega
theorem scan_num {n : Nat} {c : UInt8} (h : 48 ≤ c.toNat) : Value.int .i64 (10 * (n : Int) + ((c.toNat : Int) - 48)) = .int .i64 ((10 * n + (c.toNat - 48) : Nat) : Int) := by
  congr 1; omega

end Go.Proofs.YtpblkkfafmcnpaaDoor.Parse
