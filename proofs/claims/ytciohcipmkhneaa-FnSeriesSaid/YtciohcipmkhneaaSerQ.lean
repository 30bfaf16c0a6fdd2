/- Series: what the functions that answer in memory leave; facts that last. -/
import Derived.Test.YtciohcipmkhneaaSerC
namespace Go.Proofs.Ytciohcipmkhneaa.SerQ
open Go.RowKit Go.Proofs.Ytciohcipmkhneaa.Mem Go.Proofs.Ytciohcipmkhneaa.Base Go.Proofs.Ytciohcipmkhneaa.Brine Go.Proofs.Ytciohcipmkhneaa.Boxes Go.Proofs.Ytciohcipmkhneaa.Keep Go.Proofs.Ytciohcipmkhneaa.Ser Go.Proofs.Ytciohcipmkhneaa.SerC
open Go.Proofs.Ytciohcipmkhneaa.SBasin hiding RPost rpost
set_option linter.unusedVariables false
def Row1 (M : List R) (q : Bool) (w : World) (e : Ending) (w' : World) : Prop :=
  ∃ A c, e = .returned (.tuple #[.slice A M.length c, .bool q]) ∧ w'.ownsRow w.heap.size 50 3 (.slice A M.length c) M.length (flat M) ∧ Below w.heap.size w w'
def Row2 (M : List R) (y : Int) (q : Bool) (w : World) (e : Ending) (w' : World) : Prop :=
  ∃ A c, e = .returned (.tuple #[.slice A M.length c, .int .i64 y, .bool q]) ∧ w'.ownsRow w.heap.size 50 3 (.slice A M.length c) M.length (flat M) ∧ Below w.heap.size w w'
def Row3 (M : List R) (x y : Int) (q : Bool) (w : World) (e : Ending) (w' : World) : Prop :=
  ∃ A c, e = .returned (.tuple #[.slice A M.length c, .agg #[.int .i64 x, .int .i64 y], .bool q]) ∧ w'.ownsRow w.heap.size 50 3 (.slice A M.length c) M.length (flat M) ∧ Below w.heap.size w w'
theorem row1 {L M : List R} {q r : Bool} {w w' : World} {A : Option Addr} {c : Nat} {v : Value} (hL : L = M) (hq : q = r) (h : v = .tuple #[.slice A M.length c, .bool r])
    (ho : w'.ownsRow w.heap.size 50 3 (.slice A M.length c) M.length (flat M)) (hB : Below w.heap.size w w') : Row1 L q w (.returned v) w' := by
  subst hL; subst hq; exact ⟨A, c, by rw [h], ho, hB⟩
theorem row2 {L M : List R} {y z : Int} {q r : Bool} {w w' : World} {A : Option Addr} {c : Nat} {v : Value} (hL : L = M) (hy : y = z) (hq : q = r) (h : v = .tuple #[.slice A M.length c, .int .i64 z, .bool r])
    (ho : w'.ownsRow w.heap.size 50 3 (.slice A M.length c) M.length (flat M)) (hB : Below w.heap.size w w') : Row2 L y q w (.returned v) w' := by
  subst hL; subst hy; subst hq; exact ⟨A, c, by rw [h], ho, hB⟩
theorem row3 {L M : List R} {x y x' y' : Int} {q r : Bool} {w w' : World} {A : Option Addr} {c : Nat} {v : Value} (hL : L = M) (hx : x = x') (hy : y = y') (hq : q = r) (h : v = .tuple #[.slice A M.length c, .agg #[.int .i64 x', .int .i64 y'], .bool r])
    (ho : w'.ownsRow w.heap.size 50 3 (.slice A M.length c) M.length (flat M)) (hB : Below w.heap.size w w') : Row3 L x y q w (.returned v) w' := by
  subst hL; subst hx; subst hy; subst hq; exact ⟨A, c, by rw [h], ho, hB⟩
theorem cell_kept {w w' : World} {b o : Nat} {v : Value} (h : w.cell? ⟨b, o, none⟩ = some v) (hb : Below w.heap.size w w') : w'.cell? ⟨b, o, none⟩ = some v :=
  ((bcell hb).1 _ _ (World.block_lt_of_cell? w ⟨b, o, none⟩ h)).trans h
end Go.Proofs.Ytciohcipmkhneaa.SerQ
