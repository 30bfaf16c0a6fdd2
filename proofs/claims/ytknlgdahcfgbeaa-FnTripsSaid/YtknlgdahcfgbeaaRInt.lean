/- Results ([]int, bool): what such a call ends in. My own. -/
import Derived.Test.YtknlgdahcfgbeaaSInt
import Derived.Test.YtknlgdahcfgbeaaBox
namespace Go.Proofs.Ytknlgdahcfgbeaa.RInt
open Go.RowKit Go.Proofs.Ytknlgdahcfgbeaa.Mem Go.Proofs.Ytknlgdahcfgbeaa.Boxes Go.Proofs.Ytknlgdahcfgbeaa.SInt
set_option linter.unusedVariables false
set_option maxRecDepth 100000
theorem info_int : (Try.prog.info? 3).map (fun i => (i.zero, i.size, i.bytes)) = some (some (.int .i64 0), 1, 8) := by kernel_rfl
def IPost (L : List Int) (q : Bool) (w : World) (e : Ending) (w' : World) : Prop :=
  ∃ A c, e = .returned (.tuple #[.slice A L.length c, .bool q]) ∧ w'.ownsRow w.heap.size 3 1 (.slice A L.length c) L.length (iv L) ∧ Below w.heap.size w w'
theorem i_mk {L M : List Int} {q r : Bool} {w w' : World} {A : Option Addr} {c : Nat} {v : Value} (hL : L = M) (hq : q = r) (h : v = .tuple #[.slice A M.length c, .bool r])
    (ho : w'.ownsRow w.heap.size 3 1 (.slice A M.length c) M.length (iv M)) (hB : Below w.heap.size w w') : IPost L q w (.returned v) w' := by
  subst hL; subst hq; exact ⟨A, c, by rw [h], ho, hB⟩
def LPost (L : List Int) (w : World) (e : Ending) (w' : World) : Prop :=
  ∃ A c, e = .returned (.slice A L.length c) ∧ w'.ownsRow w.heap.size 3 1 (.slice A L.length c) L.length (iv L) ∧ Below w.heap.size w w'
theorem l_mk {L M : List Int} {w w' : World} {A : Option Addr} {c : Nat} {v : Value} (hL : L = M) (h : v = .slice A M.length c)
    (ho : w'.ownsRow w.heap.size 3 1 (.slice A M.length c) M.length (iv M)) (hB : Below w.heap.size w w') : LPost L w (.returned v) w' := by
  subst hL; exact ⟨A, c, by rw [h], ho, hB⟩
theorem empty_own {w u : World} (hb : Below w.heap.size w u) : (u.alloc (.cells #[] 3)).ownsRow w.heap.size 3 1 (.slice (some ⟨u.heap.size, 0, none⟩) 0 0) 0 (iv []) := by
  have := World.ownsRow_lit u #[] 0 (e := 3) (size := 1) (base := w.heap.size) hb.size (by unfold maxLen; omega) rfl
  simpa [iv] using this
theorem empty_own1 {u : World} {B : Nat} (hb : Below B u u) (h : B ≤ u.heap.size) : (u.alloc (.cells #[] 3)).ownsRow B 3 1 (.slice (some ⟨u.heap.size, 0, none⟩) 0 0) 0 (iv []) := by
  have := World.ownsRow_lit u #[] 0 (e := 3) (size := 1) (base := B) h (by unfold maxLen; omega) rfl
  simpa [iv] using this
/-- the row behind an append of one number. -/
theorem row_app {w : World} {base : Nat} {A1 : Option Addr} {c1 : Nat} {L : List Int} {x : Int} (h : w.ownsRow base 3 1 (.slice A1 (L.length + 1) c1) (L.length + 1) (iv L ++ [.int .i64 x])) :
    w.ownsRow base 3 1 (.slice A1 (L ++ [x]).length c1) (L ++ [x]).length (iv (L ++ [x])) := by
  have e : iv (L ++ [x]) = iv L ++ [.int .i64 x] := by simp [iv]
  rw [e, List.length_append]; exact h
end Go.Proofs.Ytknlgdahcfgbeaa.RInt
