/- ParseInt: the model's reader and the program's, each against 'the number whose text is s'. -/
import Derived.Test.YtpblkkfafmcnpaaDoorNum
namespace Go.Proofs.YtpblkkfafmcnpaaDoor.Parse
open Go.RowKit Go.Proofs.YtpblkkfafmcnpaaDoor.Mem Go.Proofs.YtpblkkfafmcnpaaDoor.Base Go.Proofs.YtpblkkfafmcnpaaDoor.Num
set_option linter.unusedVariables false

/-! ### digits -/
def val (l : List UInt8) : Nat := l.foldl (fun a c => 10 * a + (c.toNat - 48)) 0
theorem val_snoc (l : List UInt8) (c : UInt8) : val (l ++ [c]) = 10 * val l + (c.toNat - 48) := by simp [val]
def dig (c : UInt8) : Prop := 48 ≤ c.toNat ∧ c.toNat ≤ 57
theorem foldl_ge (l : List UInt8) : ∀ a : Nat, a ≤ l.foldl (fun a c => 10 * a + (c.toNat - 48)) a := by
  induction l with
  | nil => intro a; exact Nat.le_refl _
  | cons c l ih => intro a; exact Nat.le_trans (show a ≤ 10 * a + (c.toNat - 48) by omega) (ih _)
theorem val_take_le (l : List UInt8) (k : Nat) : val (l.take k) ≤ val l := by
  have h : val l = (l.drop k).foldl (fun a c => 10 * a + (c.toNat - 48)) (val (l.take k)) := by
    unfold val
    rw [← List.foldl_append, List.take_append_drop]
  rw [h]; exact foldl_ge _ _
theorem val_take_succ (l : List UInt8) (k : Nat) (h : k < l.length) : val (l.take (k + 1)) = 10 * val (l.take k) + (l[k].toNat - 48) := by
  rw [List.take_succ_eq_append_getElem h, val_snoc]
theorem of_nat_toNat (n : Nat) (h : n < 10) : (UInt8.ofNat (48 + n)).toNat = 48 + n := by
  rw [UInt8.toNat_ofNat']; omega
theorem dec_val (n : Nat) : val (Lib.decDigits n) = n := by
  induction n using Nat.strongRecOn with
  | ind n ih =>
    rw [Lib.decDigits]
    by_cases h : n < 10
    · rw [dif_pos h]; simp only [val, List.foldl_cons, List.foldl_nil]; rw [of_nat_toNat n h]; omega
    · rw [dif_neg h, val_snoc, ih (n / 10) (by omega), of_nat_toNat _ (by omega)]; omega
theorem dec_dig (n : Nat) : ∀ c ∈ Lib.decDigits n, dig c := by
  induction n using Nat.strongRecOn with
  | ind n ih =>
    rw [Lib.decDigits]
    by_cases h : n < 10
    · rw [dif_pos h]; intro c hc; rw [List.mem_singleton.1 hc]; unfold dig; rw [of_nat_toNat n h]; omega
    · rw [dif_neg h]; intro c hc
      rcases List.mem_append.1 hc with hc | hc
      · exact ih (n / 10) (by omega) c hc
      · rw [List.mem_singleton.1 hc]; unfold dig; rw [of_nat_toNat _ (by omega)]; omega
theorem dec_pos (n : Nat) : 0 < (Lib.decDigits n).length := by
  rw [Lib.decDigits]; split <;> simp
theorem dec_le (k : Nat) : ∀ n, n < 10 ^ (k + 1) → (Lib.decDigits n).length ≤ k + 1 := by
  induction k with
  | zero => intro n h; rw [Lib.decDigits, dif_pos (by simpa using h)]; simp
  | succ k ih =>
    intro n h
    rw [Lib.decDigits]
    by_cases h10 : n < 10
    · rw [dif_pos h10]; simp
    · rw [dif_neg h10]
      have := ih (n / 10) (by rw [Nat.pow_succ] at h; omega)
      simp; omega
theorem foldl_lt (l : List UInt8) : (∀ c ∈ l, dig c) → ∀ a : Nat, l.foldl (fun a c => 10 * a + (c.toNat - 48)) a < (a + 1) * 10 ^ l.length := by
  induction l with
  | nil => intro _ a; simp
  | cons c l ih =>
    intro h a
    have h2 := h c (by simp)
    unfold dig at h2
    have h1 := ih (fun d hd => h d (by simp [hd])) (10 * a + (c.toNat - 48))
    refine Nat.lt_of_lt_of_le h1 ?_
    rw [List.length_cons, Nat.pow_succ, Nat.mul_comm (10 ^ l.length) 10, ← Nat.mul_assoc]
    exact Nat.mul_le_mul_right _ (by omega)
theorem val_lt (l : List UInt8) (h : ∀ c ∈ l, dig c) : val l < 10 ^ l.length := by
  have := foldl_lt l h 0
  simpa [val] using this

/-! ### texts of numbers -/
def Reads (s : ByteArray) (m : Int) : Prop := fmtYes m = true ∧ s.data.toList = Lib.itoa m
theorem reads_bd {s : ByteArray} {m : Int} (h : Reads s m) : -999999 ≤ m ∧ m ≤ 999999 := of_inB h.1
theorem reads_pos {s : ByteArray} {m : Int} (h : Reads s m) (hm : 0 ≤ m) : s.data.toList = Lib.decDigits m.toNat := by
  rw [h.2, Lib.itoa, if_neg (by omega)]
theorem reads_neg {s : ByteArray} {m : Int} (h : Reads s m) (hm : m < 0) : s.data.toList = 45 :: Lib.decDigits m.natAbs := by
  rw [h.2, Lib.itoa, if_pos hm]
theorem at_list (s : ByteArray) (k : Nat) (h : k < s.size) (l : List UInt8) (hl : s.data.toList = l) : l[k]? = some s[k] := by
  subst hl
  rw [List.getElem?_eq_getElem (by simpa using h)]; rfl
theorem size_list (s : ByteArray) (l : List UInt8) (hl : s.data.toList = l) : s.size = l.length := by
  subst hl; simp
theorem reads_inj {s : ByteArray} {m n : Int} (h : Reads s m) (h' : Reads s n) : m = n := by
  by_cases hm : m < 0 <;> by_cases hn : n < 0
  · have e := (reads_neg h hm).symm.trans (reads_neg h' hn)
    injection e with _ e
    have := congrArg val e; rw [dec_val, dec_val] at this; omega
  · have e := (reads_neg h hm).symm.trans (reads_pos h' (by omega))
    have := dec_dig n.toNat 45 (by rw [← e]; simp)
    exact absurd this.1 (by decide)
  · have e := (reads_pos h (by omega)).symm.trans (reads_neg h' hn)
    have := dec_dig m.toNat 45 (by rw [e]; simp)
    exact absurd this.1 (by decide)
  · have e := (reads_pos h (by omega)).symm.trans (reads_pos h' (by omega))
    have := congrArg val e; rw [dec_val, dec_val] at this; omega

/-- What the scan of the first k bytes has come to, if s is the text of m. -/
def St (s : ByteArray) (m : Int) (k : Nat) (n sg : Int) : Prop :=
  if m < 0 then (if k = 0 then n = 0 ∧ sg = 1 else n = val ((Lib.decDigits m.natAbs).take (k - 1)) ∧ sg = -1)
  else n = val ((Lib.decDigits m.toNat).take k) ∧ sg = 1
theorem st_init (s : ByteArray) (m : Int) : St s m 0 0 1 := by unfold St; split <;> simp [val]
theorem st_minus {s : ByteArray} {m n sg : Int} (h0 : 0 < s.size) (hr : Reads s m) (h : St s m 0 n sg) (hc : s[0].toNat = 45) : St s m 1 n (-1) := by
  unfold St at h ⊢
  by_cases hm : m < 0
  · rw [if_pos hm] at h ⊢
    simp only [if_true, Nat.one_ne_zero, if_false] at h ⊢
    exact ⟨by rw [h.1]; simp [val], trivial⟩
  · exfalso
    have h1 := at_list s 0 h0 _ (reads_pos hr (by omega))
    have := dec_dig m.toNat _ (List.mem_of_getElem? h1)
    unfold dig at this; omega
theorem digit_at {s : ByteArray} {m n sg : Int} {k : Nat} (hk : k < s.size) (hr : Reads s m) (hb : ¬ (k = 0 ∧ s[k].toNat = 45)) :
    dig s[k] ∧ (0 ≤ m → (Lib.decDigits m.toNat)[k]? = some s[k]) ∧ (m < 0 → 0 < k ∧ (Lib.decDigits m.natAbs)[k - 1]? = some s[k]) := by
  by_cases hm : m < 0
  · have h1 := at_list s k hk _ (reads_neg hr hm)
    rcases k with _ | k
    · exfalso; apply hb; refine ⟨rfl, ?_⟩; simp only [List.getElem?_cons_zero, Option.some.injEq] at h1; rw [← h1]; rfl
    · simp only [List.getElem?_cons_succ] at h1
      exact ⟨dec_dig _ _ (List.mem_of_getElem? h1), fun h => by omega, fun _ => ⟨by omega, h1⟩⟩
  · have h1 := at_list s k hk _ (reads_pos hr (by omega))
    exact ⟨dec_dig _ _ (List.mem_of_getElem? h1), fun _ => h1, fun h => absurd h hm⟩
theorem st_digit {s : ByteArray} {m n sg : Int} {k : Nat} (hk : k < s.size) (hr : Reads s m) (h : St s m k n sg) (hb : ¬ (k = 0 ∧ s[k].toNat = 45)) :
    St s m (k + 1) (10 * n + ((s[k].toNat : Int) - 48)) sg := by
  obtain ⟨hd, hp, hn⟩ := digit_at (n := n) (sg := sg) hk hr hb
  unfold dig at hd
  unfold St at h ⊢
  by_cases hm : m < 0
  · rw [if_pos hm] at h ⊢
    obtain ⟨h0, h1⟩ := hn hm
    rw [if_neg (by omega)] at h ⊢
    obtain ⟨j, rfl⟩ : ∃ j, k = j + 1 := ⟨k - 1, by omega⟩
    simp only [Nat.add_sub_cancel] at h h1 ⊢
    obtain ⟨hj, hj'⟩ := List.getElem?_eq_some_iff.1 h1
    refine ⟨?_, h.2⟩
    rw [val_take_succ _ j hj, hj', h.1]; omega
  · rw [if_neg hm] at h ⊢
    obtain ⟨hj, hj'⟩ := List.getElem?_eq_some_iff.1 (hp (by omega))
    refine ⟨?_, h.2⟩
    rw [val_take_succ _ k hj, hj', h.1]; omega
theorem st_small {s : ByteArray} {m n sg : Int} {k : Nat} (hr : Reads s m) (h : St s m k n sg) : n ≤ 999999 := by
  have hb := reads_bd hr
  unfold St at h
  split at h
  · split at h
    · omega
    · have := val_take_le (Lib.decDigits m.natAbs) (k - 1); rw [dec_val] at this; omega
  · have := val_take_le (Lib.decDigits m.toNat) k; rw [dec_val] at this; omega
theorem st_bad {s : ByteArray} {m n sg : Int} {k : Nat} (hk : k < s.size) (hr : Reads s m) (h : St s m k n sg) (hb : ¬ (k = 0 ∧ s[k].toNat = 45))
    (hd : ¬ (48 ≤ s[k].toNat ∧ s[k].toNat ≤ 57 ∧ n ≤ 999999)) : False := by
  obtain ⟨hg, _, _⟩ := digit_at (n := n) (sg := sg) hk hr hb
  exact hd ⟨hg.1, hg.2, st_small hr h⟩
theorem st_end {s : ByteArray} {m n sg : Int} (hr : Reads s m) (h : St s m s.size n sg) : n * sg = m := by
  unfold St at h
  by_cases hm : m < 0
  · rw [if_pos hm] at h
    have hl := size_list s _ (reads_neg hr hm)
    rw [if_neg (by rw [hl]; simp)] at h
    rw [hl, List.length_cons, Nat.add_sub_cancel, List.take_length, dec_val] at h
    rw [h.1, h.2]; omega
  · rw [if_neg hm] at h
    have hl := size_list s _ (reads_pos hr (by omega))
    rw [hl, List.take_length, dec_val] at h
    rw [h.1, h.2]; omega

/-! ### the post of both -/
def PPost (s : ByteArray) (w : World) (e : Ending) (w' : World) : Prop :=
  ((∃ n, Reads s n ∧ e = .returned (.tuple #[.int .i64 n, .bool true])) ∨ ((∀ n, ¬ Reads s n) ∧ e = .returned (.tuple #[.int .i64 0, .bool false]))) ∧ Below w.heap.size w w'
theorem p_yes {s : ByteArray} {n : Int} {w w' : World} (h : Reads s n) (hw : Below w.heap.size w w') : PPost s w (.returned (.tuple #[.int .i64 n, .bool true])) w' := ⟨.inl ⟨n, h, rfl⟩, hw⟩
theorem p_no {s : ByteArray} {w w' : World} (h : ∀ n, ¬ Reads s n) (hw : Below w.heap.size w w') : PPost s w (.returned (.tuple #[.int .i64 0, .bool false])) w' := ⟨.inr ⟨h, rfl⟩, hw⟩

/-! ### the program -/
theorem tail_no {s : ByteArray} {x : Int} {w w' : World} (hx : ∀ m, Reads s m → m = x) (hy : fmtYes x = false) (hw : Below w.heap.size w w') :
    PPost s w (.returned (.tuple #[.int .i64 0, .bool false])) w' :=
  p_no (fun m hm => by have := hm.1; rw [hx m hm, hy] at this; cases this) hw
theorem tail_ne {s R : ByteArray} {x : Int} {w w' : World} (hx : ∀ m, Reads s m → m = x) (hy : fmtYes x = true) (hr : fmtRes x = R) (hh : (!(R.toList == s.toList)) = true) (hw : Below w.heap.size w w') :
    PPost s w (.returned (.tuple #[.int .i64 0, .bool false])) w' :=
  p_no (fun m hm => by
    apply str_ne_true hh
    rw [← hr, fmtRes, if_pos hy]
    exact WideShapes.bytes_inj (by rw [hm.2, hx m hm])) hw
theorem tail_eq {s R : ByteArray} {x : Int} {w w' : World} (hy : fmtYes x = true) (hr : fmtRes x = R) (hh : (!(R.toList == s.toList)) = false) (hw : Below w.heap.size w w') :
    PPost s w (.returned (.tuple #[.int .i64 x, .bool true])) w' :=
  p_yes ⟨hy, by rw [← str_ne_false hh, ← hr, fmtRes, if_pos hy]⟩ hw

end Go.Proofs.YtpblkkfafmcnpaaDoor.Parse
