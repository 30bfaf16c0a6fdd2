/- SplitBrine: the model's and the program's. -/
import Derived.Test.YtbbnbkdglihhhaaMix
import Derived.Test.YtbbnbkdglihhhaaRegn2
namespace Go.Proofs.Ytbbnbkdglihhhaa.Halve
open Go.RowKit Go.Proofs.Ytbbnbkdglihhhaa.Mem Go.Proofs.Ytbbnbkdglihhhaa.Base Go.Proofs.Ytbbnbkdglihhhaa.Brine Go.Proofs.Ytbbnbkdglihhhaa.Brine2 Go.Proofs.Ytbbnbkdglihhhaa.Regn Go.Proofs.Ytbbnbkdglihhhaa.Boxes Go.Proofs.Ytbbnbkdglihhhaa.IBrine
set_option linter.unusedVariables false
set_option maxRecDepth 100000
def shr (n p i : Int) : Int := if i < n % p then n / p + 1 else n / p
def parts (a b n : Int) (k : Nat) : List R := (List.range k).map fun (i : Nat) => ⟨shr a n (i : Int), shr b n (i : Int)⟩
theorem parts_len (a b n : Int) (k : Nat) : (parts a b n k).length = k := by simp [parts]
theorem parts_flat (a b n : Int) (k : Nat) : SBrine.flat (parts a b n (k + 1)) = SBrine.flat (parts a b n k) ++ [.int .i64 (shr a n k), .int .i64 (shr b n k)] := by
  unfold parts SBrine.flat; rw [List.range_succ, List.map_append, List.flatMap_append]; rfl
def halfOk (a b n : Int) : Bool := okB a b && inB n 1 20
def halfL (a b n : Int) : List R := if halfOk a b n = true then parts a b n n.toNat else []
theorem half_no {a b n : Int} (h : halfOk a b n = false) : halfL a b n = [] := by unfold halfL; rw [h]; rfl
theorem half_yes {a b n : Int} (h : halfOk a b n = true) : halfL a b n = parts a b n n.toNat := by unfold halfL; rw [if_pos h]
def HalfPost (a b n : Int) (w : World) (e : Ending) (w' : World) : Prop :=
  ∃ A c, e = .returned (.tuple #[.slice A (halfL a b n).length c, .bool (halfOk a b n)]) ∧ w'.ownsRow w.heap.size 25 2 (.slice A (halfL a b n).length c) (halfL a b n).length (SBrine.flat (halfL a b n)) ∧ Below w.heap.size w w'
theorem half_mk {a b n : Int} {l : List R} {ok : Bool} {w w' : World} {A : Option Addr} {c : Nat} {v : Value} (h1 : halfL a b n = l) (h2 : halfOk a b n = ok) (hv : v = .tuple #[.slice A l.length c, .bool ok])
    (ho : w'.ownsRow w.heap.size 25 2 (.slice A l.length c) l.length (SBrine.flat l)) (hB : Below w.heap.size w w') : HalfPost a b n w (.returned v) w' := by
  subst h1; subst h2; exact ⟨A, c, by rw [hv], ho, hB⟩
theorem shr_bd {n p i : Int} (h0 : 0 ≤ n) (h1 : n ≤ 1000000) (hp : 1 ≤ p) : 0 ≤ shr n p i ∧ shr n p i ≤ 1000001 := by
  have := Int.ediv_nonneg h0 (by omega : 0 ≤ p)
  have := Int.ediv_le_self p h0
  unfold shr; split <;> omega
end Go.Proofs.Ytbbnbkdglihhhaa.Halve
