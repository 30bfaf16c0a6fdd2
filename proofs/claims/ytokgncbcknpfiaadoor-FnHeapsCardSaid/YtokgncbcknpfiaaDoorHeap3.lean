/- Heaps: what is put, taken and washed away, as plain functions. -/
import Derived.Test.YtokgncbcknpfiaaDoorHeap2
namespace Go.Proofs.YtokgncbcknpfiaaDoor.Heap3
open Go.RowKit Go.Proofs.YtokgncbcknpfiaaDoor.Mem Go.Proofs.YtokgncbcknpfiaaDoor.Base Go.Proofs.YtokgncbcknpfiaaDoor.HeapS Go.Proofs.YtokgncbcknpfiaaDoor.Heap Go.Proofs.YtokgncbcknpfiaaDoor.Heap2
set_option linter.unusedVariables false
/-- tons are taken from the front of these layers, the highest one first. -/
def takeR : List Int → Int → List Int
  | [], _ => []
  | x :: r, t => if t ≤ 0 then x :: r else if t < x then (x - t) :: r else takeR r (t - x)
def takeL (ls : List Int) (t : Int) : List Int := (takeR ls.reverse t).reverse
theorem takeL_nil (t : Int) : takeL [] t = [] := rfl
theorem takeL_none {ls : List Int} {t : Int} (h : t ≤ 0) : takeL ls t = ls := by
  unfold takeL
  cases hr : ls.reverse with
  | nil => have : ls = [] := by simpa using hr
           subst this; rfl
  | cons x r => rw [takeR, if_pos h, ← hr, List.reverse_reverse]
theorem takeL_part {p : List Int} {x t : Int} (h : 0 < t) (h2 : t < x) : takeL (p ++ [x]) t = p ++ [x - t] := by
  unfold takeL
  rw [List.reverse_append, List.reverse_singleton, List.singleton_append, takeR, if_neg (by omega), if_pos h2]; simp
theorem takeL_all {p : List Int} {x t : Int} (h : 0 < t) (h2 : x ≤ t) : takeL (p ++ [x]) t = takeL p (t - x) := by
  unfold takeL
  rw [List.reverse_append, List.reverse_singleton, List.singleton_append, takeR, if_neg (by omega), if_neg (by omega)]
theorem takeR_sum : ∀ (r : List Int) (t : Int), (∀ x ∈ r, 1 ≤ x) → 0 ≤ t → t ≤ r.sum → (takeR r t).sum = r.sum - t := by
  intro r
  induction r with
  | nil => intro t _ h0 h1; simp at h1; simp [takeR]; omega
  | cons x r ih =>
    intro t h h0 h1
    have hx := h x (by simp)
    rw [List.sum_cons] at h1
    unfold takeR
    split
    · rw [List.sum_cons]; omega
    · split
      · rw [List.sum_cons, List.sum_cons]; omega
      · rw [ih (t - x) (fun y hy => h y (by simp [hy])) (by omega) (by omega), List.sum_cons]; omega
theorem takeL_sum {ls : List Int} {t : Int} (h : ∀ x ∈ ls, 1 ≤ x) (h0 : 0 ≤ t) (h1 : t ≤ ls.sum) : (takeL ls t).sum = ls.sum - t := by
  unfold takeL
  rw [List.sum_reverse, takeR_sum _ _ (by simpa using h) h0 (by rw [List.sum_reverse]; exact h1), List.sum_reverse]
theorem snoc_of {ls : List Int} {k : Nat} (h : ls.length = k + 1) : ls = ls.take k ++ [ls[k]'(by omega)] := by
  conv => lhs; rw [← List.take_length (l := ls), h, List.take_succ_eq_append_getElem (by omega)]
theorem takeL_ok : ∀ (n : Nat) (ls : List Int) (t : Int), ls.length = n → okLs ls = true → okLs (takeL ls t) = true := by
  intro n
  induction n with
  | zero => intro ls t h ho; have : ls = [] := List.eq_nil_of_length_eq_zero h
            subst this; rw [takeL_nil]; exact ho
  | succ n ih =>
    intro ls t h ho
    by_cases h0 : t ≤ 0
    · rw [takeL_none h0]; exact ho
    · have e := snoc_of h
      have hp : okLs (ls.take n) = true := okLs_take ho n
      have ho2 := ho
      rw [e] at ho2
      obtain ⟨a, b, c, d, f⟩ := okLs_append.1 ho2
      rcases Int.lt_or_le t (ls[n]'(by omega)) with h2 | h2
      · rw [e, takeL_part (by omega) h2]
        exact okLs_append.2 ⟨hp, by omega, by omega, fun hh => by have := d hh; omega, f⟩
      · rw [e, takeL_all (by omega) h2]
        exact ih _ _ (by rw [List.length_take]; omega) hp
theorem takeL_len (ls : List Int) (t : Int) : (takeL ls t).length ≤ ls.length := by
  have key : ∀ (r : List Int) (t : Int), (takeR r t).length ≤ r.length := by
    intro r
    induction r with
    | nil => intro t; simp [takeR]
    | cons x r ih =>
      intro t
      unfold takeR
      split
      · simp
      · split
        · simp
        · have := ih (t - x); simp; omega
  unfold takeL
  have := key ls.reverse t
  simpa using this

def withLs (x : H) (ls : List Int) : H := ⟨x.id, x.gr, ls, x.cov⟩
def atI (l : List H) (i : Int) : H := l.getD i.toNat hz
theorem atI_k {l : List H} {i : Int} {k : Nat} {x : H} (h : i = k) (hk : k < l.length) (hx : l[k] = x) : atI l i = x := by
  subst h; unfold atI; rw [Int.toNat_natCast, h_at hk, hx]
def putOk (l : List H) (id g t : Int) : Bool := decide (0 ≤ find l id) && can (atI l (find l id)) g t
def putH (l : List H) (id g t : Int) : List H := if putOk l id g t = true then l.set (find l id).toNat (withLs (atI l (find l id)) ((atI l (find l id)).ls ++ [t])) else []
theorem put_none {l : List H} {id g t : Int} (h : find l id = -1) : putOk l id g t = false := by unfold putOk; rw [h]; rfl
theorem put_no {l : List H} {id g t : Int} (h : putOk l id g t = false) : putH l id g t = [] := by unfold putH; rw [h]; rfl
theorem put_can {l : List H} {id g t : Int} {k : Nat} {x : H} (h : find l id = k) (hk : k < l.length) (hx : l[k] = x) : putOk l id g t = can x g t := by
  unfold putOk; rw [atI_k h hk hx, h, decide_eq_true (by omega), Bool.true_and]
theorem put_yes {l : List H} {id g t : Int} {k : Nat} {x : H} (h : find l id = k) (hk : k < l.length) (hx : l[k] = x) (hc : can x g t = true) : putH l id g t = l.set k (withLs x (x.ls ++ [t])) := by
  unfold putH; rw [if_pos ((put_can h hk hx).trans hc), atI_k h hk hx, h, Int.toNat_natCast]
def takeOk (l : List H) (id t : Int) : Bool := decide (0 ≤ find l id) && inB t 1 6000 && decide (t ≤ (atI l (find l id)).ls.sum)
def takeH (l : List H) (id t : Int) : List H := if takeOk l id t = true then l.set (find l id).toNat (withLs (atI l (find l id)) (takeL (atI l (find l id)).ls t)) else []
theorem take_none {l : List H} {id t : Int} (h : find l id = -1) : takeOk l id t = false := by unfold takeOk; rw [h]; rfl
theorem take_no {l : List H} {id t : Int} (h : takeOk l id t = false) : takeH l id t = [] := by unfold takeH; rw [h]; rfl
theorem take_out {l : List H} {id t : Int} (h : inB t 1 6000 = false) : takeOk l id t = false := by unfold takeOk; rw [h, Bool.and_false]; rfl
theorem take_can {l : List H} {id t : Int} {k : Nat} {x : H} (h : find l id = k) (hk : k < l.length) (hx : l[k] = x) (h1 : inB t 1 6000 = true) : takeOk l id t = decide (t ≤ x.ls.sum) := by
  unfold takeOk; rw [atI_k h hk hx, h, h1, decide_eq_true (by omega), Bool.true_and, Bool.true_and]
theorem take_yes {l : List H} {id t : Int} {k : Nat} {x : H} (h : find l id = k) (hk : k < l.length) (hx : l[k] = x) (h1 : inB t 1 6000 = true) (hc : t ≤ x.ls.sum) : takeH l id t = l.set k (withLs x (takeL x.ls t)) := by
  unfold takeH; rw [if_pos ((take_can h hk hx h1).trans (decide_eq_true hc)), atI_k h hk hx, h, Int.toNat_natCast]
/-- what the rain takes from one heap. -/
def openH (x : H) : Bool := !x.cov && decide (0 < x.ls.length)
def washed (r : Int) (x : H) : Int := if openH x = true then min (r / 10) (topE 501 x.ls) else 0
def rainOne (r : Int) (x : H) : H := if openH x = true then withLs x (takeL x.ls (washed r x)) else x
def rainOk (l : List H) (r : Int) : Bool := good l && inB r 0 300
def rainH (l : List H) (r : Int) : List H := if rainOk l r = true then l.map (rainOne r) else []
def lostI (l : List H) (r : Int) : Int := (l.map (washed r)).sum
def rainI (l : List H) (r : Int) : Int := if rainOk l r = true then lostI l r else 0
theorem rain_no {l : List H} {r : Int} (h : rainOk l r = false) : rainH l r = [] ∧ rainI l r = 0 := by unfold rainH rainI; rw [h]; exact ⟨rfl, rfl⟩
theorem rain_yes {l : List H} {r : Int} (h : rainOk l r = true) : rainH l r = l.map (rainOne r) ∧ rainI l r = lostI l r := by unfold rainH rainI; rw [h]; exact ⟨rfl, rfl⟩
theorem lost_take {l : List H} {r : Int} {k : Nat} {x : H} (hk : k < l.length) (hx : l[k] = x) : lostI (l.take (k + 1)) r = lostI (l.take k) r + washed r x := by
  unfold lostI
  rw [List.take_succ_eq_append_getElem hk, hx, List.map_append, List.sum_append]; simp
theorem washed_bd {x : H} {r : Int} (h : okLs x.ls = true) (h0 : 0 ≤ r) (h1 : r ≤ 300) : 0 ≤ washed r x ∧ washed r x ≤ 30 := by
  unfold washed
  split
  · rcases topE_bd (e := 501) (okLs_mem h) with ⟨_, b⟩ | ⟨_, b, c, _⟩
    · rw [b]; omega
    · omega
  · omega
end Go.Proofs.YtokgncbcknpfiaaDoor.Heap3
