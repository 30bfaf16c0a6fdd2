/- SplitString: the model's l1Split. -/
import Derived.Test.YtggloekjjnhhjaaDoorBytes
import Derived.Test.YtggloekjjnhhjaaDoorStrs
namespace Go.Proofs.YtggloekjjnhhjaaDoor.Split
open Go.RowKit Go.Proofs.YtggloekjjnhhjaaDoor.Mem Go.Proofs.YtggloekjjnhhjaaDoor.Bytes Go.Proofs.YtggloekjjnhhjaaDoor.Strs
set_option linter.unusedVariables false

/-! ### the plain function -/
def sp (b : UInt8) : List UInt8 → List (List UInt8)
  | [] => [[]]
  | c :: l => if c = b then [] :: sp b l else match sp b l with
    | [] => [[c]]
    | x :: r => (c :: x) :: r
theorem sp_ne (b : UInt8) (l : List UInt8) : sp b l ≠ [] := by
  cases l with
  | nil => simp [sp]
  | cons c l =>
    unfold sp
    split
    · simp
    · split <;> simp
/-- the parts xs, then p at the head of the parts of l. -/
def glue (b : UInt8) (xs : List (List UInt8)) (p l : List UInt8) : List (List UInt8) :=
  match sp b l with
  | [] => xs ++ [p]
  | x :: r => xs ++ (p ++ x) :: r
theorem glue_nil (b : UInt8) (xs : List (List UInt8)) (p : List UInt8) : glue b xs p [] = xs ++ [p] := by simp [glue, sp]
theorem glue_sep (b : UInt8) (xs : List (List UInt8)) (p l : List UInt8) : glue b xs p (b :: l) = glue b (xs ++ [p]) [] l := by
  unfold glue
  rw [sp, if_pos rfl]
  split
  · rename_i h; exact absurd h (by simp)
  · rename_i x r h
    injection h with h1 h2
    subst h1
    split
    · rename_i h3; exact absurd h3 (sp_ne b l)
    · rename_i x' r' h3
      rw [← h2, h3]; simp
theorem glue_other (b c : UInt8) (xs : List (List UInt8)) (p l : List UInt8) (h : c ≠ b) : glue b xs p (c :: l) = glue b xs (p ++ [c]) l := by
  unfold glue
  rw [sp, if_neg h]
  cases hs : sp b l with
  | nil => exact absurd hs (sp_ne b l)
  | cons x r => simp
theorem glue_start (b : UInt8) (l : List UInt8) : glue b [] [] l = sp b l := by
  unfold glue
  cases hs : sp b l with
  | nil => exact absurd hs (sp_ne b l)
  | cons x r => simp

theorem drop_cons (s : ByteArray) (k : Nat) (h : k < s.size) : s.data.toList.drop k = s[k] :: s.data.toList.drop (k + 1) := by
  rw [List.drop_eq_getElem_cons (by simpa using h)]; rfl
theorem cut_snoc (s : ByteArray) (f k : Nat) (hf : f ≤ k) (h : k < s.size) : (s.data.toList.drop f).take (k + 1 - f) = (s.data.toList.drop f).take (k - f) ++ [s[k]] := by
  rw [show k + 1 - f = (k - f) + 1 by omega, List.take_succ_eq_append_getElem (by simp; omega)]
  congr 2
  simp only [List.getElem_drop]
  have : f + (k - f) = k := by omega
  simp only [this]; rfl

theorem extract_list (s : ByteArray) (a b : Nat) : (s.extract a b).data.toList = (s.data.toList.drop a).take (b - a) := by
  rw [Lib.extract_data]
def listOf (ss : List ByteArray) : List (List UInt8) := ss.map (·.data.toList)
theorem info_str : (Tryd.prog.info? 9).map (fun i => (i.zero, i.size, i.bytes)) = some (some (.string ByteArray.empty), 1, 16) := by kernel_rfl
def SpPost (s : ByteArray) (b : UInt8) (w : World) (e : Ending) (w' : World) : Prop :=
  ∃ (ss : List ByteArray) (A : Option Addr) (c : Nat), e = .returned (.slice A ss.length c) ∧ listOf ss = sp b s.data.toList ∧
    w'.ownsRow w.heap.size 9 1 (.slice A ss.length c) ss.length (strv ss) ∧ Below w.heap.size w w'

end Go.Proofs.YtggloekjjnhhjaaDoor.Split
