/- The law on strings: decimal numbers, checksums, and one byte changed. -/
import Derived.Test.YtbjpkcclmoekiaaDoorVerify
import Derived.Test.YtbjpkcclmoekiaaDoorRead
import Derived.Test.YtbjpkcclmoekiaaDoorDraws1
import Derived.Laws.IdiomStrings
import Derived.StillTailTactics
namespace Go.Proofs.YtbjpkcclmoekiaaDoor.StringsLaw
open Go.RowKit Go.Proofs.YtbjpkcclmoekiaaDoor.Mem Go.Proofs.YtbjpkcclmoekiaaDoor.Base Go.Proofs.YtbjpkcclmoekiaaDoor.Num Go.Proofs.YtbjpkcclmoekiaaDoor.Sum Go.Proofs.YtbjpkcclmoekiaaDoor.Seal Go.Proofs.YtbjpkcclmoekiaaDoor.Verify Go.Proofs.YtbjpkcclmoekiaaDoor.Parse Go.Proofs.YtbjpkcclmoekiaaDoor.Draw Go.Proofs.YtbjpkcclmoekiaaDoor.Draws1
set_option linter.unusedVariables false

/-! ### one byte changed -/
theorem step_inj {h1 h2 : Int} (a1 : 0 ≤ h1) (b1 : h1 < 999979) (a2 : 0 ≤ h2) (b2 : h2 < 999979) (c : UInt8) (h : Sum.step h1 c = Sum.step h2 c) : h1 = h2 := by
  unfold Sum.step at h
  omega
theorem step_byte {h1 : Int} (a1 : 0 ≤ h1) (b1 : h1 < 999979) {c d : UInt8} (h : Sum.step h1 c = Sum.step h1 d) : c = d := by
  have hc := c.toNat_lt
  have hd := d.toNat_lt
  unfold Sum.step at h
  exact UInt8.toNat_inj.1 (by omega)
theorem fold_inj (q : List UInt8) : ∀ h1 h2 : Int, 0 ≤ h1 → h1 < 999979 → 0 ≤ h2 → h2 < 999979 → q.foldl Sum.step h1 = q.foldl Sum.step h2 → h1 = h2 := by
  induction q with
  | nil => intro h1 h2 _ _ _ _ h; exact h
  | cons c q ih =>
    intro h1 h2 a1 b1 a2 b2 h
    have r1 := step_range h1 c
    have r2 := step_range h2 c
    exact step_inj a1 b1 a2 b2 c (ih _ _ r1.1 r1.2 r2.1 r2.2 h)
theorem sum_set (x : List UInt8) (k : Nat) (c : UInt8) (hk : k < x.length) (h : sum (x.set k c) = sum x) : c = x[k] := by
  have e1 : x = x.take k ++ x[k] :: x.drop (k + 1) := by
    conv => lhs; rw [← List.take_append_drop k x, List.drop_eq_getElem_cons hk]
  have e2 : x.set k c = x.take k ++ c :: x.drop (k + 1) := by rw [List.set_eq_take_append_cons_drop, if_pos hk]
  rw [e2] at h
  conv at h => rhs; rw [e1]
  unfold sum at h
  rw [List.foldl_append, List.foldl_append, List.foldl_cons, List.foldl_cons] at h
  have rp : 0 ≤ (x.take k).foldl Sum.step 7 ∧ (x.take k).foldl Sum.step 7 < 999979 := sum_range (x.take k)
  have r1 := step_range ((x.take k).foldl Sum.step 7) c
  have r2 := step_range ((x.take k).foldl Sum.step 7) x[k]
  exact step_byte rp.1 rp.2 (fold_inj _ _ _ r1.1 r1.2 r2.1 r2.2 h)
theorem itoa_no (n : Int) : (35 : UInt8) ∉ Lib.itoa n := by
  unfold Lib.itoa
  intro h
  split at h
  · rcases List.mem_cons.1 h with h | h
    · exact absurd h (by decide)
    · exact absurd (dec_dig _ _ h).1 (by decide)
  · exact absurd (dec_dig _ _ h).1 (by decide)
theorem itoa_nn_inj {a b : Int} (ha : 0 ≤ a) (hb : 0 ≤ b) (h : Lib.itoa a = Lib.itoa b) : a = b := by
  rw [Lib.itoa, if_neg (by omega), Lib.itoa, if_neg (by omega)] at h
  have := congrArg val h
  rw [dec_val, dec_val] at this; omega
theorem first_eq {a b r s : List UInt8} (ha : (35 : UInt8) ∉ a) (hb : (35 : UInt8) ∉ b) (h : a ++ 35 :: r = b ++ 35 :: s) : a = b ∧ r = s := by
  have e := congrArg (pre 35) h
  rw [pre_app 35 _ _ ha, pre_app 35 _ _ hb] at e
  subst e
  have := List.append_cancel_left h
  exact ⟨rfl, by injection this⟩
theorem detect {x t : List UInt8} {k : Nat} {c : UInt8} (hx : (35 : UInt8) ∉ x) (ht : (35 : UInt8) ∉ t) (hk : k < (sealL x).length) (hc : (sealL x)[k]? ≠ some c) : sealL t ≠ (sealL x).set k c := by
  intro h
  unfold sealL at h
  rcases Nat.lt_trichotomy k x.length with hlt | heq | hgt
  · have e : (x ++ 35 :: Lib.itoa (sum x)).set k c = x.set k c ++ 35 :: Lib.itoa (sum x) := List.set_append_left _ _ hlt
    rw [e] at h
    have hck : c ≠ x[k] := by
      intro e'; apply hc; unfold sealL; rw [List.getElem?_append_left hlt, List.getElem?_eq_getElem hlt, e']
    by_cases h35 : c = 35
    · have e2 : x.set k c = x.take k ++ c :: x.drop (k + 1) := by rw [List.set_eq_take_append_cons_drop, if_pos hlt]
      rw [e2, h35, List.append_assoc, List.cons_append] at h
      have h1 := first_eq ht (fun hm => hx (List.mem_of_mem_take hm)) h
      exact itoa_no (sum t) (by rw [h1.2]; simp)
    · have hx' : (35 : UInt8) ∉ x.set k c := by
        intro hm
        rcases List.mem_or_eq_of_mem_set hm with hm | hm
        · exact hx hm
        · exact h35 hm.symm
      have h1 := first_eq ht hx' h
      have h2 := itoa_nn_inj (sum_range _).1 (sum_range _).1 h1.2
      rw [h1.1] at h2
      exact hck (sum_set x k c hlt h2)
  · subst heq
    have hc35 : c ≠ 35 := by
      intro e'; apply hc; unfold sealL; rw [List.getElem?_append_right (Nat.le_refl _), Nat.sub_self, e']; rfl
    have e : (x ++ 35 :: Lib.itoa (sum x)).set x.length c = x ++ c :: Lib.itoa (sum x) := by
      rw [List.set_append_right _ _ (Nat.le_refl _), Nat.sub_self, List.set_cons_zero]
    rw [e] at h
    have hm : (35 : UInt8) ∈ x ++ c :: Lib.itoa (sum x) := by rw [← h]; simp
    rcases List.mem_append.1 hm with hm | hm
    · exact hx hm
    · rcases List.mem_cons.1 hm with hm | hm
      · exact hc35 hm.symm
      · exact itoa_no _ hm
  · obtain ⟨j, hj⟩ : ∃ j, k = x.length + (j + 1) := ⟨k - x.length - 1, by omega⟩
    subst hj
    have e : (x ++ 35 :: Lib.itoa (sum x)).set (x.length + (j + 1)) c = x ++ 35 :: (Lib.itoa (sum x)).set j c := by
      rw [List.set_append_right _ _ (by omega), Nat.add_sub_cancel_left, List.set_cons_succ]
    rw [e] at h
    have h1 := first_eq ht hx h
    have hj2 : j < (Lib.itoa (sum x)).length := by
      unfold sealL at hk; rw [List.length_append, List.length_cons] at hk; omega
    have h2 := h1.2
    rw [h1.1] at h2
    have h3 : (Lib.itoa (sum x))[j] = c := by
      have := congrArg (fun l => l[j]?) h2
      simp only [List.getElem?_set, hj2, if_true] at this
      rw [List.getElem?_eq_getElem hj2] at this
      injection this
    apply hc
    unfold sealL
    rw [List.getElem?_append_right (by omega), Nat.add_sub_cancel_left, List.getElem?_cons_succ, List.getElem?_eq_getElem hj2, h3]

/-! ### results as functions -/
open Classical in
noncomputable def pVal (s : ByteArray) : Int := if h : ∃ n, Reads s n then h.choose else 0
open Classical in
noncomputable def pOk (s : ByteArray) : Bool := if ∃ n, Reads s n then true else false
theorem p_form {s : ByteArray} {w : World} {e : Ending} {w' : World} (h : PPost s w e w') : e = .returned (.tuple #[.int .i64 (pVal s), .bool (pOk s)]) ∧ Below w.heap.size w w' := by
  refine ⟨?_, h.2⟩
  rcases h.1 with ⟨n, hr, rfl⟩ | ⟨hn, rfl⟩
  · have hex : ∃ n, Reads s n := ⟨n, hr⟩
    have e1 : pVal s = n := by unfold pVal; rw [dif_pos hex]; exact reads_inj hex.choose_spec hr
    have e2 : pOk s = true := by unfold pOk; rw [if_pos hex]
    rw [e1, e2]
  · have hex : ¬ ∃ n, Reads s n := fun ⟨n, h⟩ => hn n h
    have e1 : pVal s = 0 := by unfold pVal; rw [dif_neg hex]
    have e2 : pOk s = false := by unfold pOk; rw [if_neg hex]
    rw [e1, e2]
theorem p_reads {s : ByteArray} {n : Int} (h : Reads s n) : pVal s = n ∧ pOk s = true := by
  have hex : ∃ n, Reads s n := ⟨n, h⟩
  exact ⟨by unfold pVal; rw [dif_pos hex]; exact reads_inj hex.choose_spec h, by unfold pOk; rw [if_pos hex]⟩
open Classical in
noncomputable def aOk (s : ByteArray) : Bool := if goodS s then true else false
noncomputable def aStr (s : ByteArray) : ByteArray := if aOk s = true then sealB s else ⟨#[]⟩
theorem a_form {s : ByteArray} {w : World} {e : Ending} {w' : World} (h : APost s w e w') : e = .returned (.tuple #[.string (aStr s), .bool (aOk s)]) ∧ Below w.heap.size w w' := by
  refine ⟨?_, h.2⟩
  rcases h.1 with ⟨hg, rfl⟩ | ⟨hg, rfl⟩
  · have e2 : aOk s = true := by unfold aOk; rw [if_pos hg]
    rw [aStr, e2, if_pos rfl]
  · have e2 : aOk s = false := by unfold aOk; rw [if_neg hg]
    rw [aStr, e2, if_neg (by simp)]
theorem a_good {s : ByteArray} (h : aOk s = true) : goodS s := by
  unfold aOk at h
  split at h
  · assumption
  · cases h

/-! ### a string's bytes in new memory -/
def nums (Y : ByteArray) : List Int := Y.data.toList.map fun b => (b.toNat : Int)
theorem nums_len (Y : ByteArray) : (nums Y).length = Y.size := by simp [nums]
theorem conv_bytes (w : World) (Y : ByteArray) : ∃ (w1 : World) (C : Array Value) (F c : Nat), (convert 9 22 (.string Y)).run Tryd.prog w = .ok (.slice (some ⟨w.heap.size, 0, none⟩) Y.size c) w1 ∧
    w1.heap[w.heap.size]? = some (.cells C 5 (F, F + 1)) ∧ Y.size ≤ F ∧ (∀ (j : Nat) (v : Int), (nums Y)[j]? = some v → C[j]? = some (Value.int .u8 v)) ∧ Below w.heap.size w w1 ∧ w.heap.size < w1.heap.size := by
  refine ⟨_, _, _, _, run_bytes_of_string w 9 22 5 Y Tryd.underlying9 Tryd.underlying22 Tryd.underlying5, heap_alloc_new w.drew _, ?_, ?_, ?_, ?_⟩
  · simp [bytesRow]
  · intro j v hv
    have hj : j < Y.data.size := by
      rcases Nat.lt_or_ge j (nums Y).length with h | h
      · rw [nums_len] at h; exact h
      · rw [List.getElem?_eq_none h] at hv; cases hv
    rw [bytesRow_at Y _ j hj]
    have e : (nums Y)[j]? = some (Y.data[j].toNat : Int) := by simp only [nums, List.getElem?_map, Array.getElem?_toList, Array.getElem?_eq_getElem hj, Option.map_some]
    rw [e] at hv
    injection hv with hv
    rw [hv]
  · exact (Below.drew (Below.refl _ w)).alloc (Nat.le_refl _) _
  · simp

theorem xor_other {a b : Int} (h1 : 0 ≤ a) (h2 : a ≤ 255) (h3 : 1 ≤ b) (h4 : b ≤ 255) : 0 ≤ bits .xor .u8 a b ∧ bits .xor .u8 a b ≤ 255 ∧ bits .xor .u8 a b ≠ a := by
  rw [u8_xor a b h1 (by omega) (by omega) (by omega)]
  have hlt : a.toNat ^^^ b.toNat < 2 ^ 8 := Nat.xor_lt_two_pow (by omega) (by omega)
  refine ⟨by omega, by omega, fun e => ?_⟩
  have e2 : a.toNat ^^^ b.toNat = a.toNat := by omega
  have e3 : a.toNat ^^^ (a.toNat ^^^ b.toNat) = a.toNat ^^^ a.toNat := by rw [e2]
  rw [← Nat.xor_assoc, Nat.xor_self, Nat.zero_xor] at e3
  omega
theorem set_bytes {Y : ByteArray} {k : Nat} {nv : Int} (h0 : 0 ≤ nv) (h1 : nv ≤ 255) :
    (strOfNums ((nums Y).set k nv)).data.toList = Y.data.toList.set k (UInt8.ofNat nv.toNat) := by
  rw [strOfNums_data, nums, List.map_set, List.map_map]
  congr 1
  conv => rhs; rw [← List.map_id Y.data.toList]
  apply List.map_congr_left
  intro b _
  simp
theorem not_verified {x Y : ByteArray} {k : Nat} {nv : Int} (hg : goodS x) (hY : Y = sealB x) (hk : k < Y.size) (h0 : 0 ≤ nv) (h1 : nv ≤ 255) (hne : nv ≠ (Y[k].toNat : Int)) :
    ¬ V (strOfNums ((nums Y).set k nv)) := by
  intro v
  have e1 := congrArg (fun b : ByteArray => b.data.toList) v.2
  simp only [sealB_list] at e1
  rw [set_bytes h0 h1] at e1
  have e2 : Y.data.toList = sealL x.data.toList := by rw [hY, sealB_list]
  rw [e2] at e1
  have hk' : k < (sealL x.data.toList).length := by rw [← e2]; simpa using hk
  refine detect hg.2.1 (tx_not _) hk' ?_ e1
  rw [← e2, List.getElem?_eq_getElem (by simpa using hk)]
  intro e3
  injection e3 with e3
  have e4 : Y.data.toList[k]'(by simpa using hk) = Y[k] := rfl
  rw [e4] at e3
  apply hne
  rw [e3, UInt8.toNat_ofNat']
  omega

theorem cell_set {w : World} {g T k i : Nat} {F : Nat × Nat} {C : Array Value} {u : Value} (h : w.heap[g]? = some (.cells C T F)) : (w.setCell ⟨g, k, none⟩ u).cell? ⟨g, i, none⟩ = (C.setIfInBounds k u)[i]? := by
  simp [World.cell?, World.setCell, Array.getElem?_modify, h]
theorem conv_back {w : World} {g F k c : Nat} {C : Array Value} {Y : ByteArray} {nv : Int} (h : w.heap[g]? = some (.cells C 5 (F, F + 1))) (hC : ∀ (j : Nat) (v : Int), (nums Y)[j]? = some v → C[j]? = some (Value.int .u8 v)) (hk : k < Y.size) :
    (convert 22 9 (.slice (some ⟨g, 0, none⟩) Y.size c)).run Tryd.prog (w.setCell ⟨g, k, none⟩ (.int .u8 nv)) = .ok (.string (strOfNums ((nums Y).set k nv))) (w.setCell ⟨g, k, none⟩ (.int .u8 nv)) := by
  refine run_convert_bytes_arg (P := Tryd.prog) _ 22 5 Tryd.underlying22 Tryd.underlying5 g 0 Y.size c ((nums Y).set k nv) (by rw [List.length_set, nums_len]) (fun i hi => ?_) 9 Tryd.underlying9
  have hl := nums_len Y
  have hi2 : (nums Y)[i]? = some ((nums Y)[i]'(by omega)) := List.getElem?_eq_getElem _
  have hCi := hC i _ hi2
  have hsz : i < C.size := (Array.getElem?_eq_some_iff.1 hCi).1
  rw [Nat.zero_add, cell_set h, Array.getElem?_setIfInBounds]
  by_cases hki : k = i
  · subst hki
    rw [if_pos rfl, if_pos hsz]
    congr 2
    simp [List.getD, hl, hk]
  · rw [if_neg hki, hCi]
    congr 2
    simp [List.getD, hki, hi2]

/-! ### the law -/
set_option maxRecDepth 100000 in
set_option maxHeartbeats 4000000 in
theorem law (A : Option Addr) (cap : Nat) (zs : List Int) (w : World) (hr : Rd w w.heap.size A (zs.map (Value.int .u8))) (hn : zs.length ≤ maxLen) (hb : ∀ z ∈ zs, 0 ≤ z ∧ z ≤ 255) (ht : Tab w) :
    Calls Tryd.prog 3 #[.slice A zs.length cap] w fun e w' => e = .returned (.bool true) ∧ Below w.heap.size w w' := by
  have HT := Lib.hid ht; clear ht
  by_cases hbig : 65536 < zs.length
  · have HG := Lib.hid (show bigB zs.length = true from decide_eq_true hbig)
    clear hr hb
    go_enter Tryd.func3, Tryd.ntmps3
    go_wp2_with fail
    refine (big_any A cap zs.length w hn).mono ?_
    rintro e w' ⟨rfl, rfl⟩
    rw [HG.out]
    go_wp2
    go_ret
    exact ⟨rfl, Below.refl _ _⟩
  have HG := Lib.hid (show bigB zs.length = false from decide_eq_false hbig)
  have HN := Lib.hid hn; clear hn
  have HC := Lib.hid (show Src w A zs from ⟨hr, by omega, hb⟩); clear hr hb
  go_enter Tryd.func3, Tryd.ntmps3
  go_wp2_with fail
  refine (big_any A cap zs.length w HN.out).mono ?_
  rintro e w' ⟨rfl, rfl⟩
  rw [HG.out]
  go_wp2_with fail
  refine (drawFormatInt A cap zs w HC.out).mono ?_
  rintro e w1 ⟨⟨n, hn0, hn1, rfl⟩, hB⟩
  have HB1 := Lib.hid hB; clear hB
  go_wp2_with fail
  refine (fmt_impl n w1 (HT.out.below HB1.out)).mono ?_
  rintro e w2 ⟨rfl, hB⟩
  have HB2 := Lib.hid (HB1.out.trans (hB.mono HB1.out.size)); clear hB HB1
  go_wp2_with fail
  refine (fmt_spec n w2).mono ?_
  rintro e w3 ⟨rfl, hB⟩
  have HB3 := Lib.hid (HB2.out.trans (hB.mono HB2.out.size)); clear hB HB2
  go_wp2_with fail
  refine (drawParseInt A cap zs w3 (HC.out.below HB3.out)).mono ?_
  rintro e w4 ⟨⟨t, ht, rfl⟩, hB⟩
  have HB4 := Lib.hid (HB3.out.trans (hB.mono HB3.out.size)); clear hB HB3
  go_wp2_with fail
  refine (parse_impl t w4 (by unfold maxLen; omega) (HT.out.below HB4.out)).mono ?_
  intro e w5 hP
  obtain ⟨rfl, hB⟩ := p_form hP
  have HB5 := Lib.hid (HB4.out.trans (hB.mono HB4.out.size)); clear hB HB4 hP
  go_wp2_with fail
  refine (parse_spec t w5 (by unfold maxLen; omega)).mono ?_
  intro e w6 hP
  obtain ⟨rfl, hB⟩ := p_form hP
  have HB6 := Lib.hid (HB5.out.trans (hB.mono HB5.out.size)); clear hB HB5 hP
  go_wp2_with fail
  refine (drawAppendChecksum A cap zs w6 (HC.out.below HB6.out)).mono ?_
  rintro e w7 ⟨⟨x, hx, rfl⟩, hB⟩
  have HB7 := Lib.hid (HB6.out.trans (hB.mono HB6.out.size)); clear hB HB6
  go_wp2_with fail
  refine (app_impl x w7 (by unfold maxLen; omega) (HT.out.below HB7.out)).mono ?_
  intro e w8 hP
  obtain ⟨rfl, hB⟩ := a_form hP
  have HB8 := Lib.hid (HB7.out.trans (hB.mono HB7.out.size)); clear hB HB7 hP
  go_wp2_with fail
  refine (app_spec x w8 (by unfold maxLen; omega)).mono ?_
  intro e w9 hP
  obtain ⟨rfl, hB⟩ := a_form hP
  have HB9 := Lib.hid (HB8.out.trans (hB.mono HB8.out.size)); clear hB HB8 hP
  generalize pVal t = pv
  generalize pOk t = pb
  have hfs : (fmtRes n).size ≤ 1000002 := by
    unfold fmtRes
    split
    · show (List.toArray _).size ≤ _; rw [List.size_toArray]; exact itoa_len _ (by omega) (by omega)
    · decide
  obtain ⟨S, hS⟩ : ∃ S, S = fmtRes n := ⟨_, rfl⟩
  obtain ⟨Y, hY⟩ : ∃ Y, Y = aStr x := ⟨_, rfl⟩
  rw [← hS, ← hY]
  rw [← hS] at hfs
  have HS := Lib.hid hS; clear hS
  have HY := Lib.hid hY; clear hY
  cases hf : fmtYes n
  · go_wp2_with fail
    refine (parse_impl S w9 (by unfold maxLen; omega) (HT.out.below HB9.out)).mono ?_
    intro e w10 hP
    obtain ⟨rfl, hB⟩ := p_form hP
    have HB10 := Lib.hid (HB9.out.trans (hB.mono HB9.out.size)); clear hB HB9 hP hf
    generalize pVal S = v2
    generalize pOk S = b2
    cases ha : aOk x
    · have hy0 : Y = ⟨#[]⟩ := by rw [HY.out, aStr, ha]; rfl
      clear ha HY
      subst hy0
      go_wp2
      go_ret
      exact ⟨rfl, HB10.out⟩
    · have HG2 := Lib.hid (a_good ha)
      have hyS : Y = sealB x := by rw [HY.out, aStr, if_pos ha]
      have HYS := Lib.hid hyS; clear hyS ha HY
      have hV : V Y ∧ tx Y = x := by
        have e := tx_of HG2.out HYS.out.symm
        exact ⟨⟨by rw [← e]; exact HG2.out, by rw [← e]; exact HYS.out.symm⟩, e.symm⟩
      have HV := Lib.hid hV; clear hV
      have hYz : Y.size ≤ 4000 := by rw [HYS.out]; exact HG2.out.2.2
      have hYp : 0 < Y.size := by rw [HYS.out, sealB_size]; omega
      go_wp2_with fail
      refine (ver_impl Y w10 (by unfold maxLen; omega) (HT.out.below HB10.out)).mono ?_
      rintro e w11 ⟨hh, hB⟩
      have HB11 := Lib.hid (HB10.out.trans (hB.mono HB10.out.size)); clear hB HB10
      rcases hh with ⟨_, rfl⟩ | ⟨hno, rfl⟩
      · rw [HV.out.2]
        obtain ⟨w12, C, F, c12, hcv, hblk, hF, hC, hB12, hlt12⟩ := conv_bytes w11 Y
        have HK := Lib.hid hblk; clear hblk
        have HCC := Lib.hid hC; clear hC
        have HB12 := Lib.hid (HB11.out.trans (hB12.mono HB11.out.size)); clear hB12
        have HCV := Lib.hid hcv; clear hcv
        go_wp2_with fail
        rw [HCV.out]
        go_simp
        go_wp2_with fail
        refine (at_any A cap zs w12 (HC.out.below HB12.out) 9 (by omega)).mono ?_
        rintro e w' ⟨rfl, rfl⟩
        obtain ⟨hq0, hq1⟩ := atV_range HC.out.2.2 9
        generalize atV zs 9 = q at *
        have hm := Int.emod_nonneg q (show (Y.size : Int) ≠ 0 by omega)
        have hm2 := Int.emod_lt_of_pos q (show (0 : Int) < Y.size by omega)
        have hmt := Int.tmod_eq_emod_of_nonneg (b := (Y.size : Int)) hq0
        obtain ⟨k, hk⟩ : ∃ k : Nat, q % (Y.size : Int) = k := ⟨(q % (Y.size : Int)).toNat, by omega⟩
        have hkl : k < Y.size := by omega
        have hyne : ((Y.size : Int) == 0) = false := by rw [beq_eq_false_iff_ne]; omega
        rw [hk] at hmt
        clear hm hm2 hk
        have hcell : w12.cell? ⟨w11.heap.size, k, none⟩ = some (.int .u8 (Y[k].toNat : Int)) := by
          rw [cell_of_row w12 _ k C _ (F, F + 1) HK.out]
          exact HCC.out k _ (by simp [nums, hkl]; rfl)
        have hfr : w12.frozen? ⟨w11.heap.size, k, none⟩ = false := by
          have := HK.out
          simp [World.frozen?, this]; omega
        obtain ⟨hr0, hr1⟩ := atV_range HC.out.2.2 10
        have hbt := Y[k].toNat_lt
        obtain ⟨r2, hr2⟩ : ∃ r2 : Int, (atV zs 10).tmod 255 = r2 := ⟨_, rfl⟩
        have hr2b : 0 ≤ r2 ∧ r2 ≤ 254 := by rw [Int.tmod_eq_emod_of_nonneg hr0] at hr2; omega
        have HAT := Lib.hid (show Calls Tryd.prog 21 #[.slice A zs.length cap, .int .i64 10] w12.drew fun e w' => e = .returned (.int .i64 (atV zs 10)) ∧ w' = w12.drew from
          (at_any A cap zs w12.drew ⟨(HC.out.below HB12.out).1, HC.out.2⟩ 10 (by omega)).mono fun _ _ h => ⟨h.1, h.2.symm⟩)
        clear hr0 hr1
        go_wp2_with fail
        go_still_tail 13, (by kernel_rfl)
        still_call HAT.out
        repeat still_step
        try refine wpStill_nil ?_
        obtain ⟨w13, hw13⟩ : ∃ W : World, W = w12.drew := ⟨_, rfl⟩
        change wpList _ _ _ _ _ w12.drew
        rw [← hw13]
        have hcell' : w13.cell? ⟨w11.heap.size, k, none⟩ = some (.int .u8 (Y[k].toNat : Int)) := by rw [hw13]; exact hcell
        have hfr' : w13.frozen? ⟨w11.heap.size, k, none⟩ = false := by rw [hw13]; exact hfr
        have HK' := Lib.hid (show w13.heap[w11.heap.size]? = some (.cells C 5 (F, F + 1)) by rw [hw13]; exact HK.out)
        have HB13 := Lib.hid (show Below w.heap.size w w13 by rw [hw13]; exact HB12.out.drew)
        clear hw13 hcell hfr
        obtain ⟨hx0, hx1, hx2⟩ := xor_other (a := (Y[k].toNat : Int)) (b := 1 + r2) (by omega) (by omega) (by omega) (by omega)
        have e8 : IntKind.u8.wrap (1 + r2) = 1 + r2 := IntWalk.u8_in _ (by omega)
        have hnv := fun (nv : Int) (h0 : 0 ≤ nv) (h1 : nv ≤ 255) (h2 : nv ≠ (Y[k].toNat : Int)) => not_verified HG2.out HYS.out hkl h0 h1 h2
        have HNV := Lib.hid hnv; clear hnv
        go_wp2_with fail
        generalize bits BinOp.xor IntKind.u8 (Y[k].toNat : Int) (1 + r2) = nv at *
        rw [conv_back HK'.out HCC.out hkl]
        have hNo := HNV.out nv hx0 hx1 hx2
        have hZs : (strOfNums ((nums Y).set k nv)).size ≤ 4000 := by rw [strOfNums_size, List.length_set, nums_len]; exact hYz
        have HB14 := Lib.hid (HB13.out.setCell (p := ⟨w11.heap.size, k, none⟩) (by show w.heap.size ≤ w11.heap.size; exact HB11.out.size) (.int .u8 nv))
        generalize w13.setCell ⟨w11.heap.size, k, none⟩ (.int .u8 nv) = w14 at *
        generalize strOfNums ((nums Y).set k nv) = Z at *
        have HNo := Lib.hid hNo; clear hNo hcell' hfr' hx0 hx1 hx2 e8
        go_simp
        go_wp2_with fail
        refine (ver_impl Z w14 (by unfold maxLen; omega) (HT.out.below HB14.out)).mono ?_
        rintro e w15 ⟨hh, hB⟩
        have HB15 := Lib.hid (HB14.out.trans (hB.mono HB14.out.size)); clear hB
        rcases hh with ⟨hyes, rfl⟩ | ⟨_, rfl⟩
        · exact absurd hyes HNo.out
        · go_wp2
          go_ret
          exact ⟨rfl, HB15.out⟩
      · exact absurd HV.out.1 hno
  · have HF := Lib.hid hf; clear hf
    go_wp2_with fail
    refine (parse_impl S w9 (by unfold maxLen; omega) (HT.out.below HB9.out)).mono ?_
    intro e w10 hP
    obtain ⟨rfl, hB⟩ := p_form hP
    have HB10 := Lib.hid (HB9.out.trans (hB.mono HB9.out.size)); clear hB HB9 hP
    obtain ⟨hv2, hb2⟩ := p_reads (s := S) (n := n) ⟨HF.out, by rw [HS.out, fmtRes, if_pos HF.out]⟩
    rw [hv2, hb2]
    clear hv2 hb2
    cases ha : aOk x
    · have hy0 : Y = ⟨#[]⟩ := by rw [HY.out, aStr, ha]; rfl
      clear ha HY
      subst hy0
      go_wp2
      go_ret
      exact ⟨rfl, HB10.out⟩
    · have HG2 := Lib.hid (a_good ha)
      have hyS : Y = sealB x := by rw [HY.out, aStr, if_pos ha]
      have HYS := Lib.hid hyS; clear hyS ha HY
      have hV : V Y ∧ tx Y = x := by
        have e := tx_of HG2.out HYS.out.symm
        exact ⟨⟨by rw [← e]; exact HG2.out, by rw [← e]; exact HYS.out.symm⟩, e.symm⟩
      have HV := Lib.hid hV; clear hV
      have hYz : Y.size ≤ 4000 := by rw [HYS.out]; exact HG2.out.2.2
      have hYp : 0 < Y.size := by rw [HYS.out, sealB_size]; omega
      go_wp2_with fail
      refine (ver_impl Y w10 (by unfold maxLen; omega) (HT.out.below HB10.out)).mono ?_
      rintro e w11 ⟨hh, hB⟩
      have HB11 := Lib.hid (HB10.out.trans (hB.mono HB10.out.size)); clear hB HB10
      rcases hh with ⟨_, rfl⟩ | ⟨hno, rfl⟩
      · rw [HV.out.2]
        obtain ⟨w12, C, F, c12, hcv, hblk, hF, hC, hB12, hlt12⟩ := conv_bytes w11 Y
        have HK := Lib.hid hblk; clear hblk
        have HCC := Lib.hid hC; clear hC
        have HB12 := Lib.hid (HB11.out.trans (hB12.mono HB11.out.size)); clear hB12
        have HCV := Lib.hid hcv; clear hcv
        go_wp2_with fail
        rw [HCV.out]
        go_simp
        go_wp2_with fail
        refine (at_any A cap zs w12 (HC.out.below HB12.out) 9 (by omega)).mono ?_
        rintro e w' ⟨rfl, rfl⟩
        obtain ⟨hq0, hq1⟩ := atV_range HC.out.2.2 9
        generalize atV zs 9 = q at *
        have hm := Int.emod_nonneg q (show (Y.size : Int) ≠ 0 by omega)
        have hm2 := Int.emod_lt_of_pos q (show (0 : Int) < Y.size by omega)
        have hmt := Int.tmod_eq_emod_of_nonneg (b := (Y.size : Int)) hq0
        obtain ⟨k, hk⟩ : ∃ k : Nat, q % (Y.size : Int) = k := ⟨(q % (Y.size : Int)).toNat, by omega⟩
        have hkl : k < Y.size := by omega
        have hyne : ((Y.size : Int) == 0) = false := by rw [beq_eq_false_iff_ne]; omega
        rw [hk] at hmt
        clear hm hm2 hk
        have hcell : w12.cell? ⟨w11.heap.size, k, none⟩ = some (.int .u8 (Y[k].toNat : Int)) := by
          rw [cell_of_row w12 _ k C _ (F, F + 1) HK.out]
          exact HCC.out k _ (by simp [nums, hkl]; rfl)
        have hfr : w12.frozen? ⟨w11.heap.size, k, none⟩ = false := by
          have := HK.out
          simp [World.frozen?, this]; omega
        obtain ⟨hr0, hr1⟩ := atV_range HC.out.2.2 10
        have hbt := Y[k].toNat_lt
        obtain ⟨r2, hr2⟩ : ∃ r2 : Int, (atV zs 10).tmod 255 = r2 := ⟨_, rfl⟩
        have hr2b : 0 ≤ r2 ∧ r2 ≤ 254 := by rw [Int.tmod_eq_emod_of_nonneg hr0] at hr2; omega
        have HAT := Lib.hid (show Calls Tryd.prog 21 #[.slice A zs.length cap, .int .i64 10] w12.drew fun e w' => e = .returned (.int .i64 (atV zs 10)) ∧ w' = w12.drew from
          (at_any A cap zs w12.drew ⟨(HC.out.below HB12.out).1, HC.out.2⟩ 10 (by omega)).mono fun _ _ h => ⟨h.1, h.2.symm⟩)
        clear hr0 hr1
        go_wp2_with fail
        go_still_tail 13, (by kernel_rfl)
        still_call HAT.out
        repeat still_step
        try refine wpStill_nil ?_
        obtain ⟨w13, hw13⟩ : ∃ W : World, W = w12.drew := ⟨_, rfl⟩
        change wpList _ _ _ _ _ w12.drew
        rw [← hw13]
        have hcell' : w13.cell? ⟨w11.heap.size, k, none⟩ = some (.int .u8 (Y[k].toNat : Int)) := by rw [hw13]; exact hcell
        have hfr' : w13.frozen? ⟨w11.heap.size, k, none⟩ = false := by rw [hw13]; exact hfr
        have HK' := Lib.hid (show w13.heap[w11.heap.size]? = some (.cells C 5 (F, F + 1)) by rw [hw13]; exact HK.out)
        have HB13 := Lib.hid (show Below w.heap.size w w13 by rw [hw13]; exact HB12.out.drew)
        clear hw13 hcell hfr
        obtain ⟨hx0, hx1, hx2⟩ := xor_other (a := (Y[k].toNat : Int)) (b := 1 + r2) (by omega) (by omega) (by omega) (by omega)
        have e8 : IntKind.u8.wrap (1 + r2) = 1 + r2 := IntWalk.u8_in _ (by omega)
        have hnv := fun (nv : Int) (h0 : 0 ≤ nv) (h1 : nv ≤ 255) (h2 : nv ≠ (Y[k].toNat : Int)) => not_verified HG2.out HYS.out hkl h0 h1 h2
        have HNV := Lib.hid hnv; clear hnv
        go_wp2_with fail
        generalize bits BinOp.xor IntKind.u8 (Y[k].toNat : Int) (1 + r2) = nv at *
        rw [conv_back HK'.out HCC.out hkl]
        have hNo := HNV.out nv hx0 hx1 hx2
        have hZs : (strOfNums ((nums Y).set k nv)).size ≤ 4000 := by rw [strOfNums_size, List.length_set, nums_len]; exact hYz
        have HB14 := Lib.hid (HB13.out.setCell (p := ⟨w11.heap.size, k, none⟩) (by show w.heap.size ≤ w11.heap.size; exact HB11.out.size) (.int .u8 nv))
        generalize w13.setCell ⟨w11.heap.size, k, none⟩ (.int .u8 nv) = w14 at *
        generalize strOfNums ((nums Y).set k nv) = Z at *
        have HNo := Lib.hid hNo; clear hNo hcell' hfr' hx0 hx1 hx2 e8
        go_simp
        go_wp2_with fail
        refine (ver_impl Z w14 (by unfold maxLen; omega) (HT.out.below HB14.out)).mono ?_
        rintro e w15 ⟨hh, hB⟩
        have HB15 := Lib.hid (HB14.out.trans (hB.mono HB14.out.size)); clear hB
        rcases hh with ⟨hyes, rfl⟩ | ⟨_, rfl⟩
        · exact absurd hyes HNo.out
        · go_wp2
          go_ret
          exact ⟨rfl, HB15.out⟩
      · exact absurd HV.out.1 hno
end Go.Proofs.YtbjpkcclmoekiaaDoor.StringsLaw
