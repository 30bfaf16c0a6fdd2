/- strings.SplitSeq's iterator, at a separator of one byte: it hands the parts on, one by one. -/
import Derived.TacticsIn
import Derived.RegionIn
import Derived.Shelf.RegionOpen
import Derived.RangeFuncBox
import Derived.RangeFuncLeaves
import Derived.OwnWalkIn
import Derived.TacticsInMore
import Derived.LoopNIn
import Derived.LoopIn
import Derived.Maps.AppendAt
import Derived.Test.YtggloekjjnhhjaaDoorSplit
import Derived.Test.YtggloekjjnhhjaaDoorSeqLaw
import Derived.Test.YtggloekjjnhhjaaDoorShelf
namespace Go.Proofs.YtggloekjjnhhjaaDoor.SplitIt
open Go Go.RowKit Go.Proofs.YtggloekjjnhhjaaDoor.Mem Go.Proofs.YtggloekjjnhhjaaDoor.Bytes Go.Proofs.YtggloekjjnhhjaaDoor.Strs Go.Proofs.YtggloekjjnhhjaaDoor.Split Go.Proofs.YtggloekjjnhhjaaDoor.SeqLaw
set_option linter.unusedVariables false
attribute [local go_sem] Oper.semAt_some

theorem sp_none (b : UInt8) : ∀ l : List UInt8, Lib.indexByte l b < 0 → sp b l = [l]
  | [], _ => rfl
  | c :: l, h => by
    have hg := Lib.indexByte_ge l b
    unfold Lib.indexByte at h
    by_cases hc : c = b
    · simp [hc] at h
    · have hc' : (c == b) = false := by simpa using hc
      rw [hc'] at h
      simp only [Bool.false_eq_true, if_false] at h
      have hl : Lib.indexByte l b < 0 := by
        by_cases h1 : Lib.indexByte l b = -1
        · omega
        · have : (Lib.indexByte l b == -1) = false := by simpa using h1
          rw [this] at h
          simp only [Bool.false_eq_true, if_false] at h
          omega
      rw [sp, if_neg hc, sp_none b l hl]
theorem sp_some (b : UInt8) : ∀ (l : List UInt8) (i : Nat), Lib.indexByte l b = i → i < l.length ∧ sp b l = l.take i :: sp b (l.drop (i + 1))
  | [], i, h => by simp [Lib.indexByte] at h
  | c :: l, i, h => by
    have hg := Lib.indexByte_ge l b
    unfold Lib.indexByte at h
    by_cases hc : c = b
    · simp [hc] at h
      have hi : i = 0 := by omega
      subst hi
      exact ⟨by simp, by rw [sp, if_pos hc]; simp⟩
    · have hc' : (c == b) = false := by simpa using hc
      rw [hc'] at h
      simp only [Bool.false_eq_true, if_false] at h
      by_cases h1 : Lib.indexByte l b = -1
      · rw [h1] at h
        simp at h
      · have : (Lib.indexByte l b == -1) = false := by simpa using h1
        rw [this] at h
        simp only [Bool.false_eq_true, if_false] at h
        obtain ⟨j, rfl⟩ : ∃ j, i = j + 1 := ⟨i - 1, by omega⟩
        obtain ⟨h2, h3⟩ := sp_some b l j (by omega)
        refine ⟨by simp; omega, ?_⟩
        rw [sp, if_neg hc, h3]
        simp
def parts (b : UInt8) (s : ByteArray) : List ByteArray := (sp b s.data.toList).map fun l => ⟨l.toArray⟩
theorem parts_list (b : UInt8) (s : ByteArray) : listOf (parts b s) = sp b s.data.toList := by
  simp [listOf, parts, List.map_map, Function.comp_def]
def vals (b : UInt8) (s : ByteArray) : List Value := strv (parts b s)
/-- What the rest's parts are, seen from the whole. -/
theorem vals_last {b : UInt8} {s r : ByteArray} {k : Nat} (h : (sp b s.data.toList).drop k = sp b r.data.toList) (hi : Lib.indexByte r.data.toList b < 0) : (vals b s)[k]? = some (.string r) ∧ (vals b s).length = k + 1 := by
  rw [sp_none b _ hi] at h
  have h0 : (sp b s.data.toList)[k]? = some r.data.toList := by
    have := congrArg (·[0]?) h
    simpa using this
  have h1 := congrArg List.length h
  simp at h1
  have h2 := (List.getElem?_eq_some_iff.1 h0).1
  refine ⟨by simp [vals, strv, parts, h0], by simp [vals, strv, parts]; omega⟩
theorem vals_next {b : UInt8} {s r : ByteArray} {k i : Nat} (h : (sp b s.data.toList).drop k = sp b r.data.toList) (hi : Lib.indexByte r.data.toList b = i) :
    i < r.size ∧ (vals b s)[k]? = some (.string (r.extract 0 i)) ∧ (sp b s.data.toList).drop (k + 1) = sp b (r.extract (i + 1) r.size).data.toList := by
  obtain ⟨h1, h2⟩ := sp_some b _ i hi
  rw [h2] at h
  have hl : r.data.toList.length = r.size := by simp
  have h0 : (sp b s.data.toList)[k]? = some (r.data.toList.take i) := by
    have := congrArg (·[0]?) h
    simpa using this
  refine ⟨by omega, ?_, ?_⟩
  · have e : (⟨(r.data.toList.take i).toArray⟩ : ByteArray) = r.extract 0 i := by
      have := extract_list r 0 i
      rw [List.drop_zero, Nat.sub_zero] at this
      rw [← this]
    simp only [vals, strv, parts, List.map_map, List.getElem?_map, h0, Option.map_some, Function.comp_apply, e]
  · have := congrArg (List.drop 1) h
    simp only [List.drop_drop, List.drop_succ_cons, List.drop_zero] at this
    rw [this, extract_list, List.take_of_length_le (by simp)]

/-- The three boxes that the iterator has captured. -/
structure Caps (B : Nat) (b : UInt8) (r : ByteArray) (W : World) : Prop where
  s : Boxed W B 9 (.string r)
  p : Boxed W (B + 1) 9 (.string ⟨#[b]⟩)
  z : Boxed W (B + 2) 3 (.int .i64 0)
def Kp (B : Nat) (U V : World) : Prop := ∀ k, k = B ∨ k = B + 1 ∨ k = B + 2 → V.heap[k]? = U.heap[k]?
theorem Caps.kp {B : Nat} {b : UInt8} {r : ByteArray} {U V : World} (h : Caps B b r U) (k : Kp B U V) : Caps B b r V :=
  ⟨(k _ (.inl rfl)).trans h.s, (k _ (.inr (.inl rfl))).trans h.p, (k _ (.inr (.inr rfl))).trans h.z⟩
theorem Caps.set {B : Nat} {b : UInt8} {r : ByteArray} {U : World} (h : Caps B b r U) (r' : ByteArray) : Caps B b r' (U.setCell ⟨B, 0, none⟩ (.string r')) :=
  ⟨h.s.set _, (Below.heap_setCell _ _ _ _ (by simp)).trans h.p, (Below.heap_setCell _ _ _ _ (by simp)).trans h.z⟩
def rest (B : Nat) (W : World) : Nat := match W.cell? ⟨B, 0, none⟩ with
  | some (.string r) => r.size
  | _ => 0
theorem rest_eq {B : Nat} {b : UInt8} {r : ByteArray} {W : World} (h : Caps B b r W) : rest B W = r.size := by simp [rest, h.s.cell]

set_option maxRecDepth 100000 in
set_option maxHeartbeats 1000000 in
theorem hands (n : Nat) (hn : 1 ≤ n) (s : ByteArray) (b : UInt8) (B : Nat) (w : World) (hs : s.size ≤ 1048576) (hc : Caps B b s w) :
    Hands Fence.wide n Tryd.prog 33 #[.pointer (some ⟨B + 1, 0, none⟩), .pointer (some ⟨B, 0, none⟩), .pointer (some ⟨B + 2, 0, none⟩)] (vals b s) B (Kp B) w := by
  intro l J W hK hJ hY h0
  have hC := hc.kp hK
  refine callsIn_of_wp Tryd.func33 rfl trivial ?_ rfl
  simp only [Tryd.ntmps33, List.size_toArray, List.length_cons, List.length_nil, Nat.reduceAdd, Nat.reduceSub, Array.replicate_succ, Array.replicate_zero, List.push_toArray, List.append_toArray, List.nil_append, List.cons_append]
  have hp1 := hC.p.cell
  gi_wp2
  gi_loopw [7] (fun i wr => ∃ (k : Nat) (r : ByteArray), Caps B b r wr ∧ r.size ≤ s.size ∧ (sp b s.data.toList).drop k = sp b r.data.toList ∧ J k wr) (fun _ wr => rest B wr)
  case atStart => exact ⟨0, s, hC, Nat.le_refl _, rfl, h0⟩
  case round =>
    obtain ⟨k, r, hC, hr, hd, hJk⟩ := hrel
    have hp1 := hC.p.cell
    have hs1 := hC.s.cell
    have hz1 := hC.z.cell
    have hzf := hC.s.frozen
    have HC := Lib.hid hC; clear hC
    have HD := Lib.hid hd; clear hd
    have HJ := Lib.hid hJk; clear hJk
    by_cases hi : Lib.indexByte r.data.toList b < 0
    · obtain ⟨hv, hlen⟩ := vals_last HD.out hi
      obtain ⟨fn, tmps, assign, body, hy, hR⟩ := hY k _ wr hv HJ.out
      have hi' : decide (Lib.indexByte r.data.toList b < 0) = true := decide_eq_true hi
      have HL := Lib.hid hlen; clear hlen hv
      gi_wp2_with (refine ⟨trivial, ?_⟩; gi_at_call 25; refine (callsIn_wide.2 (Tryd.strings_Index_one r b wr)).mono ?_; rintro e w' ⟨rfl, rfl⟩)
      refine hR.mono ?_
      rintro e W3 ⟨rfl, hJ3, hk3⟩
      have HJ3 := Lib.hid hJ3; clear hJ3
      gi_wp2
      go_end0
      refine ⟨⟨_, rfl⟩, ?_⟩
      rw [HL.out]; exact HJ3.out
    · obtain ⟨i, hii⟩ : ∃ i : Nat, Lib.indexByte r.data.toList b = i := ⟨(Lib.indexByte r.data.toList b).toNat, by omega⟩
      obtain ⟨hlt, hv, hd2⟩ := vals_next HD.out hii
      obtain ⟨fn, tmps, assign, body, hy, hR⟩ := hY k _ wr hv HJ.out
      have HD2 := Lib.hid hd2; clear hd2 hv
      have HIX := Lib.hid (show Calls Tryd.prog 25 #[.string r, .string ⟨#[b]⟩] wr fun e w' => e = .returned (.int .i64 (i : Int)) ∧ w' = wr from hii ▸ Tryd.strings_Index_one r b wr)
      clear hi hii
      have hn0 : ¬ ((i : Int) < 0) := by omega
      gi_wp2_with (refine ⟨trivial, ?_⟩; gi_at_call 25; refine (callsIn_wide.2 HIX.out).mono ?_; rintro e w' ⟨rfl, rfl⟩)
      refine hR.mono ?_
      rintro e W3 ⟨rfl, hJ3, hk3⟩
      have HC3 := Lib.hid (HC.out.kp hk3); clear hk3
      have HJ3 := Lib.hid hJ3; clear hJ3
      have hp3 := HC3.out.p.cell
      have hs3 := HC3.out.s.cell
      have hf3 := HC3.out.s.frozen
      gi_wp2
      go_roundw
      case rel => exact ⟨k + 1, r.extract (i + 1) r.size, HC3.out.set _, by rw [ByteArray.size_extract]; omega, HD2.out, hJ _ _ _ _ HJ3.out (grownBy_setCell' _ _ _) (.inr rfl)⟩
      case measure =>
        have e1 := rest_eq (HC3.out.set (r.extract (i + 1) r.size))
        have e2 := rest_eq HC.out
        have e3 : (r.extract (i + 1) r.size).size < r.size := by rw [ByteArray.size_extract]; omega
        exact e1 ▸ e2 ▸ e3
end Go.Proofs.YtggloekjjnhhjaaDoor.SplitIt
