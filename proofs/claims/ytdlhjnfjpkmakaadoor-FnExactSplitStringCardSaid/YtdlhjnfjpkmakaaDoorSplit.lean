/- SplitString: the model's l1Split. -/
import Derived.Test.YtdlhjnfjpkmakaaDoorBytes
import Derived.Test.YtdlhjnfjpkmakaaDoorStrs
namespace Go.Proofs.YtdlhjnfjpkmakaaDoor.Split
open Go.RowKit Go.Proofs.YtdlhjnfjpkmakaaDoor.Mem Go.Proofs.YtdlhjnfjpkmakaaDoor.Bytes Go.Proofs.YtdlhjnfjpkmakaaDoor.Strs
set_option linter.unusedVariables false

/-! ### the plain function -/
def sp (b : UInt8) : List UInt8 → List (List UInt8)
  | [] => [[]]
  | c :: l => if c = b then [] :: sp b l else match sp b l with
    | [] => [[c]]
    | x :: r => (c :: x) :: r
theorem sp_ne (b : UInt8) (l : List UInt8) : sp b l ≠ [] := by
  cases l with
  | nil => simp [sp]
  | cons c l =>
    unfold sp
    split
    · simp
    · split <;> simp
/-- the parts xs, then p at the head of the parts of l. -/
def glue (b : UInt8) (xs : List (List UInt8)) (p l : List UInt8) : List (List UInt8) :=
  match sp b l with
  | [] => xs ++ [p]
  | x :: r => xs ++ (p ++ x) :: r
theorem glue_nil (b : UInt8) (xs : List (List UInt8)) (p : List UInt8) : glue b xs p [] = xs ++ [p] := by simp [glue, sp]
theorem glue_sep (b : UInt8) (xs : List (List UInt8)) (p l : List UInt8) : glue b xs p (b :: l) = glue b (xs ++ [p]) [] l := by
  unfold glue
  rw [sp, if_pos rfl]
  split
  · rename_i h; exact absurd h (by simp)
  · rename_i x r h
    injection h with h1 h2
    subst h1
    split
    · rename_i h3; exact absurd h3 (sp_ne b l)
    · rename_i x' r' h3
      rw [← h2, h3]; simp
theorem glue_other (b c : UInt8) (xs : List (List UInt8)) (p l : List UInt8) (h : c ≠ b) : glue b xs p (c :: l) = glue b xs (p ++ [c]) l := by
  unfold glue
  rw [sp, if_neg h]
  cases hs : sp b l with
  | nil => exact absurd hs (sp_ne b l)
  | cons x r => simp
theorem glue_start (b : UInt8) (l : List UInt8) : glue b [] [] l = sp b l := by
  unfold glue
  cases hs : sp b l with
  | nil => exact absurd hs (sp_ne b l)
  | cons x r => simp

theorem drop_cons (s : ByteArray) (k : Nat) (h : k < s.size) : s.data.toList.drop k = s[k] :: s.data.toList.drop (k + 1) := by
  rw [List.drop_eq_getElem_cons (by simpa using h)]; rfl
theorem cut_snoc (s : ByteArray) (f k : Nat) (hf : f ≤ k) (h : k < s.size) : (s.data.toList.drop f).take (k + 1 - f) = (s.data.toList.drop f).take (k - f) ++ [s[k]] := by
  rw [show k + 1 - f = (k - f) + 1 by omega, List.take_succ_eq_append_getElem (by simp; omega)]
  congr 2
  simp only [List.getElem_drop]
  have : f + (k - f) = k := by omega
  simp only [this]; rfl

theorem extract_list (s : ByteArray) (a b : Nat) : (s.extract a b).data.toList = (s.data.toList.drop a).take (b - a) := by
  rw [Lib.extract_data]
def listOf (ss : List ByteArray) : List (List UInt8) := ss.map (·.data.toList)
theorem info_str : (Tryd.prog.info? 9).map (fun i => (i.zero, i.size, i.bytes)) = some (some (.string ByteArray.empty), 1, 16) := by kernel_rfl
def SpPost (s : ByteArray) (b : UInt8) (w : World) (e : Ending) (w' : World) : Prop :=
  ∃ (ss : List ByteArray) (A : Option Addr) (c : Nat), e = .returned (.slice A ss.length c) ∧ listOf ss = sp b s.data.toList ∧
    w'.ownsRow w.heap.size 9 1 (.slice A ss.length c) ss.length (strv ss) ∧ Below w.heap.size w w'

set_option maxRecDepth 100000 in
set_option maxHeartbeats 1000000 in
theorem split_spec (s : ByteArray) (b : UInt8) (w : World) (hs : s.size ≤ 1048576) : Calls Tryd.prog 28 #[.string s, .int .u8 (b.toNat : Int)] w (SpPost s b w) := by
  obtain ⟨i0, hi, hz0, hz1, hz2⟩ := info_parts info_str
  have hbb := b.toNat_lt
  have HI := Lib.hid hz2; clear hz2
  have HI1 := Lib.hid hz1; clear hz1
  go_enter Tryd.func28, Tryd.ntmps28
  go_wp2
  go_loopw [5, 6, 7] (fun o f i wr => ∃ (k g n : Nat) (xs : List ByteArray) (A : Option Addr) (c : Nat), k ≤ s.size ∧ i = .int .i64 k ∧ f = .int .i64 g ∧ g ≤ k ∧ n ≤ k ∧ xs.length = n ∧ o = .slice A n c ∧
      wr.ownsRow w.heap.size 9 1 (.slice A n c) n (strv xs) ∧ Below w.heap.size w wr ∧
      glue b (listOf xs) ((s.data.toList.drop g).take (k - g)) (s.data.toList.drop k) = sp b s.data.toList) (fun _ _ i _ => s.size - (intOf i).toNat)
  case atStart =>
    refine ⟨0, 0, 0, [], _, _, by omega, rfl, rfl, by omega, by omega, rfl, rfl, ?_, (Below.refl _ _).alloc (Nat.le_refl _) _, by simpa [listOf] using glue_start b s.data.toList⟩
    exact World.ownsRow_lit w #[] 0 (Nat.le_refl _) (by unfold maxLen; omega) rfl
  case round =>
    obtain ⟨k, g, n, xs, A, c, hk, rfl, rfl, hg, hn, hx, rfl, hown, hB, hgl⟩ := hrel
    have HX := Lib.hid hx; clear hx
    have HO := Lib.hid hown; clear hown
    have HB := Lib.hid hB; clear hB
    have HG := Lib.hid hgl; clear hgl
    by_cases hlt : k < s.size
    · have hc := s[k].toNat_lt
      by_cases hsep : s[k] = b
      · have hb1 : ((s[k].toNat : Int) == b.toNat) = true := by rw [hsep]; simp
        have HS := Lib.hid hsep; clear hsep
        have hgs : g ≤ s.size := by omega
        have hm1 : n + 1 ≤ maxLen := by unfold maxLen; omega
        have hm2 : (n + 1) * 16 ≤ 140737488355328 := by omega
        go_wp2_with (at_builtin; go_must (refine wpList_append_own _ rfl _ _ 26 rfl w.heap.size 9 i0 _ 1 16 Tryd.underlying26 hi hz0 HI1.out HI.out rfl (by decide) _ n _ rfl (HO.out.alloc _) ⟨wr.heap.size, 0, none⟩ 1 1 [.string (s.extract g k)] rfl rfl (cell_one_new _ _ _) (one_cell rfl) hm1 hm2 (Below.alloc HB.out HB.out.size _).size ?_; intro v' w1 hown1 hgrow _))
        have HB1 := Lib.hid (below_append HB.out HO.out hgrow)
        clear hgrow hm1 hm2
        obtain ⟨A1, c1, rfl⟩ := own_form hown1
        have HO1 := Lib.hid hown1; clear hown1
        go_wp2
        go_roundw
        case rel =>
          refine ⟨k + 1, k + 1, n + 1, xs ++ [s.extract g k], A1, c1, by omega, by go_num, by go_num, by omega, by omega, by simp [HX.out], rfl, by simpa [strv] using HO1.out, HB1.out, ?_⟩
          rw [← HG.out, drop_cons s k hlt, HS.out, glue_sep]
          simp [listOf]
        case measure => simp [intOf]; omega
      · have hb1 : ((s[k].toNat : Int) == b.toNat) = false := by
          rw [beq_eq_false_iff_ne]; intro h; exact hsep (UInt8.toNat_inj.1 (by omega))
        have HS := Lib.hid hsep; clear hsep
        go_wp2
        go_roundw
        case rel =>
          refine ⟨k + 1, g, n, xs, A, c, by omega, by go_num, rfl, by omega, by omega, HX.out, rfl, HO.out, HB.out, ?_⟩
          rw [cut_snoc s g k hg hlt, ← glue_other b s[k] _ _ _ HS.out, ← drop_cons s k hlt]
          exact HG.out
        case measure => simp [intOf]; omega
    · have hkk : k = s.size := by omega
      subst hkk
      have hm1 : n + 1 ≤ maxLen := by unfold maxLen; omega
      have hm2 : (n + 1) * 16 ≤ 140737488355328 := by omega
      go_wp2_with (at_builtin; go_must (refine wpList_append_own _ rfl _ _ 26 rfl w.heap.size 9 i0 _ 1 16 Tryd.underlying26 hi hz0 HI1.out HI.out rfl (by decide) _ n _ rfl (HO.out.alloc _) ⟨wr.heap.size, 0, none⟩ 1 1 [.string (s.extract g s.size)] rfl rfl (cell_one_new _ _ _) (one_cell rfl) hm1 hm2 (Below.alloc HB.out HB.out.size _).size ?_; intro v' w1 hown1 hgrow _))
      have HB1 := Lib.hid (below_append HB.out HO.out hgrow)
      clear hgrow hm1 hm2
      obtain ⟨A1, c1, rfl⟩ := own_form hown1
      have HO1 := Lib.hid hown1; clear hown1
      go_wp2
      go_ret
      refine ⟨xs ++ [s.extract g s.size], A1, c1, by simp [HX.out], ?_, by simpa [strv, HX.out] using HO1.out, HB1.out⟩
      have := HG.out
      have e : s.data.toList.drop s.size = [] := List.drop_eq_nil_of_le (by simp)
      rw [e, glue_nil] at this
      rw [← this]
      simp [listOf]
end Go.Proofs.YtdlhjnfjpkmakaaDoor.Split
